/- BenchFault: the same as wrongNames, of scorers whose names rise. -/
import Derived.Test.YthlfjfmlmcoihaaGreatMgay
/- CheckFills. -/
namespace Go.Proofs.YthlfjfmlmcoihaaGreat
open Go.RowKit

def fiAt (fs : List FiD) (i : Nat) : FiD := fs[i]?.getD ⟨⟨#[]⟩, ⟨#[]⟩⟩
theorem fiAt_some {fs : List FiD} {i : Nat} {f : FiD} (h : fs[i]? = some f) : fiAt fs i = f := by simp [fiAt, h]
/-- What is wrong with fill i. -/
def chF (ss : List SlD) (cs : List ScD) (fs : List FiD) (i : Nat) : Int :=
  if beqS (fiAt fs i).slot (slAt ss i).key = false then 8 else if (fiAt fs i).who.size = 0 then 0 else
    firstE [unlessE (knownB (cs.map ScD.who) (fiAt fs i).who) 8, unlessE (!inF (fs.take i) (fiAt fs i).who) 6, unlessE (suitB (fndC cs (fiAt fs i).who) (slAt ss i)) 10]
def ch0 (ss : List SlD) (cs : List ScD) (fs : List FiD) : Int := firstE [sdE ss cs, unlessE ((fs.length : Int) == (ss.length : Int)) 3]
def chkFi (ss : List SlD) (cs : List ScD) (fs : List FiD) : Int := if ch0 ss cs fs = 0 then eachE fs.length fs.length (chF ss cs fs) else ch0 ss cs fs
theorem fis_take {w : World} {lo g off n c m : Nat} {fs : List FiD} (h : Fis w lo (.slice (some ⟨g, off, none⟩) n c) fs) (hn : n = fs.length) (hm : m ≤ n) : Fis w lo (.slice (some ⟨g, off, none⟩) m c) (fs.take m) := by
  have := rows_take h (m := m) (by simpa using hn) hm
  rw [← List.map_take] at this
  exact this
def ops_83_2 : Array Go.Oper := #[
  { dst := some 13, op := Go.Op.fieldAddr 49 (Go.Operand.tmp 6) 0, type := 0, pos := "lineup.go:46", after := #[], guard := none },
  { dst := some 14, op := Go.Op.load 9 (Go.Operand.tmp 13), type := 9, pos := "lineup.go:46", after := #[{ on := 0, ground := Go.Ground.data }], guard := none },
  { dst := some 15, op := Go.Op.load 26 (Go.Operand.tmp 2), type := 26, pos := "lineup.go:46", after := #[], guard := none },
  { dst := some 16, op := Go.Op.move (Go.Operand.tmp 0), type := 3, pos := "lineup.go:46", after := #[], guard := none },
  { dst := some 17, op := Go.Op.indexAddr 26 (Go.Operand.tmp 15) (Go.Operand.tmp 16), type := 0, pos := "lineup.go:46", after := #[{ on := 2, ground := Go.Ground.data }, { on := 3, ground := Go.Ground.data }], guard := none },
  { dst := some 18, op := Go.Op.fieldAddr 78 (Go.Operand.tmp 17) 0, type := 0, pos := "lineup.go:46", after := #[{ on := 4, ground := Go.Ground.data }], guard := none },
  { dst := some 19, op := Go.Op.load 9 (Go.Operand.tmp 18), type := 9, pos := "lineup.go:46", after := #[{ on := 5, ground := Go.Ground.data }], guard := none },
  { dst := some 20, op := Go.Op.binOp Go.BinOp.neq 9 (Go.Operand.tmp 14) (Go.Operand.tmp 19) 9, type := 4, pos := "lineup.go:46", after := #[{ on := 1, ground := Go.Ground.data }, { on := 6, ground := Go.Ground.data }], guard := none }]
theorem ops_83_2_0 : ops_83_2[0]? = some ({ dst := some 13, op := Go.Op.fieldAddr 49 (Go.Operand.tmp 6) 0, type := 0, pos := "lineup.go:46", after := #[], guard := none } : Go.Oper) := rfl
theorem ops_83_2_1 : ops_83_2[1]? = some ({ dst := some 14, op := Go.Op.load 9 (Go.Operand.tmp 13), type := 9, pos := "lineup.go:46", after := #[{ on := 0, ground := Go.Ground.data }], guard := none } : Go.Oper) := rfl
theorem ops_83_2_2 : ops_83_2[2]? = some ({ dst := some 15, op := Go.Op.load 26 (Go.Operand.tmp 2), type := 26, pos := "lineup.go:46", after := #[], guard := none } : Go.Oper) := rfl
theorem ops_83_2_3 : ops_83_2[3]? = some ({ dst := some 16, op := Go.Op.move (Go.Operand.tmp 0), type := 3, pos := "lineup.go:46", after := #[], guard := none } : Go.Oper) := rfl
theorem ops_83_2_4 : ops_83_2[4]? = some ({ dst := some 17, op := Go.Op.indexAddr 26 (Go.Operand.tmp 15) (Go.Operand.tmp 16), type := 0, pos := "lineup.go:46", after := #[{ on := 2, ground := Go.Ground.data }, { on := 3, ground := Go.Ground.data }], guard := none } : Go.Oper) := rfl
theorem ops_83_2_5 : ops_83_2[5]? = some ({ dst := some 18, op := Go.Op.fieldAddr 78 (Go.Operand.tmp 17) 0, type := 0, pos := "lineup.go:46", after := #[{ on := 4, ground := Go.Ground.data }], guard := none } : Go.Oper) := rfl
theorem ops_83_2_6 : ops_83_2[6]? = some ({ dst := some 19, op := Go.Op.load 9 (Go.Operand.tmp 18), type := 9, pos := "lineup.go:46", after := #[{ on := 5, ground := Go.Ground.data }], guard := none } : Go.Oper) := rfl
theorem ops_83_2_7 : ops_83_2[7]? = some ({ dst := some 20, op := Go.Op.binOp Go.BinOp.neq 9 (Go.Operand.tmp 14) (Go.Operand.tmp 19) 9, type := 4, pos := "lineup.go:46", after := #[{ on := 1, ground := Go.Ground.data }, { on := 6, ground := Go.Ground.data }], guard := none } : Go.Oper) := rfl
theorem ops_83_2_ns : Go.Region.noSelect ops_83_2 = true := by kernel_rfl
def ops_83_7 : Array Go.Oper := #[
  { dst := some 31, op := Go.Op.move (Go.Operand.tmp 8), type := 4, pos := "lineup.go:53", after := #[], guard := none },
  { dst := some 32, op := Go.Op.call { callee := Go.Callee.value (Go.Operand.func 54), args := #[Go.Operand.tmp 31, Go.Operand.const (Go.Value.int Go.IntKind.i64 8)], argTypes := #[4, 35] }, type := 35, pos := "lineup.go:54", after := #[{ on := 0, ground := Go.Ground.data }], guard := none },
  { dst := some 33, op := Go.Op.load 30 (Go.Operand.tmp 1), type := 30, pos := "lineup.go:53", after := #[], guard := none },
  { dst := some 34, op := Go.Op.move (Go.Operand.tmp 0), type := 3, pos := "lineup.go:53", after := #[], guard := none },
  { dst := some 35, op := Go.Op.slice 30 (Go.Operand.tmp 33) none (some (Go.Operand.tmp 34)) none, type := 30, pos := "lineup.go:53", after := #[{ on := 2, ground := Go.Ground.data }, { on := 3, ground := Go.Ground.data }], guard := none },
  { dst := some 36, op := Go.Op.fieldAddr 49 (Go.Operand.tmp 6) 1, type := 0, pos := "lineup.go:53", after := #[], guard := none },
  { dst := some 37, op := Go.Op.load 9 (Go.Operand.tmp 36), type := 9, pos := "lineup.go:53", after := #[{ on := 5, ground := Go.Ground.data }], guard := none },
  { dst := some 38, op := Go.Op.call { callee := Go.Callee.value (Go.Operand.func 55), args := #[Go.Operand.tmp 35, Go.Operand.tmp 37], argTypes := #[30, 9] }, type := 4, pos := "lineup.go:55", after := #[{ on := 4, ground := Go.Ground.data }, { on := 6, ground := Go.Ground.data }, { on := 1, ground := Go.Ground.chain }], guard := none },
  { dst := some 39, op := Go.Op.unOp Go.UnOp.not 4 (Go.Operand.tmp 38), type := 4, pos := "lineup.go:53", after := #[{ on := 7, ground := Go.Ground.data }], guard := none },
  { dst := some 40, op := Go.Op.call { callee := Go.Callee.value (Go.Operand.func 54), args := #[Go.Operand.tmp 39, Go.Operand.const (Go.Value.int Go.IntKind.i64 6)], argTypes := #[4, 35] }, type := 35, pos := "lineup.go:55", after := #[{ on := 8, ground := Go.Ground.data }, { on := 7, ground := Go.Ground.chain }], guard := none },
  { dst := some 41, op := Go.Op.load 83 (Go.Operand.tmp 7), type := 83, pos := "lineup.go:53", after := #[], guard := none },
  { dst := some 42, op := Go.Op.load 26 (Go.Operand.tmp 2), type := 26, pos := "lineup.go:53", after := #[], guard := none },
  { dst := some 43, op := Go.Op.move (Go.Operand.tmp 0), type := 3, pos := "lineup.go:53", after := #[], guard := none },
  { dst := some 44, op := Go.Op.indexAddr 26 (Go.Operand.tmp 42) (Go.Operand.tmp 43), type := 0, pos := "lineup.go:53", after := #[{ on := 11, ground := Go.Ground.data }, { on := 12, ground := Go.Ground.data }], guard := none },
  { dst := some 45, op := Go.Op.load 78 (Go.Operand.tmp 44), type := 78, pos := "lineup.go:53", after := #[{ on := 13, ground := Go.Ground.data }], guard := none },
  { dst := some 46, op := Go.Op.call { callee := Go.Callee.value (Go.Operand.func 84), args := #[Go.Operand.tmp 41, Go.Operand.tmp 45], argTypes := #[83, 78] }, type := 4, pos := "lineup.go:56", after := #[{ on := 10, ground := Go.Ground.data }, { on := 14, ground := Go.Ground.data }, { on := 9, ground := Go.Ground.chain }], guard := none },
  { dst := some 47, op := Go.Op.call { callee := Go.Callee.value (Go.Operand.func 54), args := #[Go.Operand.tmp 46, Go.Operand.const (Go.Value.int Go.IntKind.i64 10)], argTypes := #[4, 35] }, type := 35, pos := "lineup.go:56", after := #[{ on := 15, ground := Go.Ground.data }, { on := 15, ground := Go.Ground.chain }], guard := none },
  { dst := some 48, op := Go.Op.buildSlice 95 3 #[(0, Go.Operand.tmp 32), (1, Go.Operand.tmp 40), (2, Go.Operand.tmp 47)], type := 95, pos := "lineup.go:53", after := #[{ on := 1, ground := Go.Ground.data }, { on := 9, ground := Go.Ground.data }, { on := 16, ground := Go.Ground.data }], guard := none },
  { dst := some 49, op := Go.Op.call { callee := Go.Callee.value (Go.Operand.func 53), args := #[Go.Operand.tmp 48], argTypes := #[95] }, type := 35, pos := "lineup.go:53", after := #[{ on := 17, ground := Go.Ground.data }, { on := 16, ground := Go.Ground.chain }], guard := none },
  { dst := some 5, op := Go.Op.assign (Go.Operand.tmp 49), type := 35, pos := "lineup.go:53", after := #[{ on := 18, ground := Go.Ground.data }, { on := 18, ground := Go.Ground.chain }, { on := 0, ground := Go.Ground.phase }, { on := 1, ground := Go.Ground.phase }, { on := 2, ground := Go.Ground.phase }, { on := 3, ground := Go.Ground.phase }, { on := 4, ground := Go.Ground.phase }, { on := 5, ground := Go.Ground.phase }, { on := 6, ground := Go.Ground.phase }, { on := 7, ground := Go.Ground.phase }, { on := 8, ground := Go.Ground.phase }, { on := 9, ground := Go.Ground.phase }, { on := 10, ground := Go.Ground.phase }, { on := 11, ground := Go.Ground.phase }, { on := 12, ground := Go.Ground.phase }, { on := 13, ground := Go.Ground.phase }, { on := 14, ground := Go.Ground.phase }, { on := 15, ground := Go.Ground.phase }, { on := 16, ground := Go.Ground.phase }, { on := 17, ground := Go.Ground.phase }, { on := 18, ground := Go.Ground.phase }], guard := none }]
theorem ops_83_7_0 : ops_83_7[0]? = some ({ dst := some 31, op := Go.Op.move (Go.Operand.tmp 8), type := 4, pos := "lineup.go:53", after := #[], guard := none } : Go.Oper) := rfl
theorem ops_83_7_1 : ops_83_7[1]? = some ({ dst := some 32, op := Go.Op.call { callee := Go.Callee.value (Go.Operand.func 54), args := #[Go.Operand.tmp 31, Go.Operand.const (Go.Value.int Go.IntKind.i64 8)], argTypes := #[4, 35] }, type := 35, pos := "lineup.go:54", after := #[{ on := 0, ground := Go.Ground.data }], guard := none } : Go.Oper) := rfl
theorem ops_83_7_2 : ops_83_7[2]? = some ({ dst := some 33, op := Go.Op.load 30 (Go.Operand.tmp 1), type := 30, pos := "lineup.go:53", after := #[], guard := none } : Go.Oper) := rfl
theorem ops_83_7_3 : ops_83_7[3]? = some ({ dst := some 34, op := Go.Op.move (Go.Operand.tmp 0), type := 3, pos := "lineup.go:53", after := #[], guard := none } : Go.Oper) := rfl
theorem ops_83_7_4 : ops_83_7[4]? = some ({ dst := some 35, op := Go.Op.slice 30 (Go.Operand.tmp 33) none (some (Go.Operand.tmp 34)) none, type := 30, pos := "lineup.go:53", after := #[{ on := 2, ground := Go.Ground.data }, { on := 3, ground := Go.Ground.data }], guard := none } : Go.Oper) := rfl
theorem ops_83_7_5 : ops_83_7[5]? = some ({ dst := some 36, op := Go.Op.fieldAddr 49 (Go.Operand.tmp 6) 1, type := 0, pos := "lineup.go:53", after := #[], guard := none } : Go.Oper) := rfl
theorem ops_83_7_6 : ops_83_7[6]? = some ({ dst := some 37, op := Go.Op.load 9 (Go.Operand.tmp 36), type := 9, pos := "lineup.go:53", after := #[{ on := 5, ground := Go.Ground.data }], guard := none } : Go.Oper) := rfl
theorem ops_83_7_7 : ops_83_7[7]? = some ({ dst := some 38, op := Go.Op.call { callee := Go.Callee.value (Go.Operand.func 55), args := #[Go.Operand.tmp 35, Go.Operand.tmp 37], argTypes := #[30, 9] }, type := 4, pos := "lineup.go:55", after := #[{ on := 4, ground := Go.Ground.data }, { on := 6, ground := Go.Ground.data }, { on := 1, ground := Go.Ground.chain }], guard := none } : Go.Oper) := rfl
theorem ops_83_7_8 : ops_83_7[8]? = some ({ dst := some 39, op := Go.Op.unOp Go.UnOp.not 4 (Go.Operand.tmp 38), type := 4, pos := "lineup.go:53", after := #[{ on := 7, ground := Go.Ground.data }], guard := none } : Go.Oper) := rfl
theorem ops_83_7_9 : ops_83_7[9]? = some ({ dst := some 40, op := Go.Op.call { callee := Go.Callee.value (Go.Operand.func 54), args := #[Go.Operand.tmp 39, Go.Operand.const (Go.Value.int Go.IntKind.i64 6)], argTypes := #[4, 35] }, type := 35, pos := "lineup.go:55", after := #[{ on := 8, ground := Go.Ground.data }, { on := 7, ground := Go.Ground.chain }], guard := none } : Go.Oper) := rfl
theorem ops_83_7_10 : ops_83_7[10]? = some ({ dst := some 41, op := Go.Op.load 83 (Go.Operand.tmp 7), type := 83, pos := "lineup.go:53", after := #[], guard := none } : Go.Oper) := rfl
theorem ops_83_7_11 : ops_83_7[11]? = some ({ dst := some 42, op := Go.Op.load 26 (Go.Operand.tmp 2), type := 26, pos := "lineup.go:53", after := #[], guard := none } : Go.Oper) := rfl
theorem ops_83_7_12 : ops_83_7[12]? = some ({ dst := some 43, op := Go.Op.move (Go.Operand.tmp 0), type := 3, pos := "lineup.go:53", after := #[], guard := none } : Go.Oper) := rfl
theorem ops_83_7_13 : ops_83_7[13]? = some ({ dst := some 44, op := Go.Op.indexAddr 26 (Go.Operand.tmp 42) (Go.Operand.tmp 43), type := 0, pos := "lineup.go:53", after := #[{ on := 11, ground := Go.Ground.data }, { on := 12, ground := Go.Ground.data }], guard := none } : Go.Oper) := rfl
theorem ops_83_7_14 : ops_83_7[14]? = some ({ dst := some 45, op := Go.Op.load 78 (Go.Operand.tmp 44), type := 78, pos := "lineup.go:53", after := #[{ on := 13, ground := Go.Ground.data }], guard := none } : Go.Oper) := rfl
theorem ops_83_7_15 : ops_83_7[15]? = some ({ dst := some 46, op := Go.Op.call { callee := Go.Callee.value (Go.Operand.func 84), args := #[Go.Operand.tmp 41, Go.Operand.tmp 45], argTypes := #[83, 78] }, type := 4, pos := "lineup.go:56", after := #[{ on := 10, ground := Go.Ground.data }, { on := 14, ground := Go.Ground.data }, { on := 9, ground := Go.Ground.chain }], guard := none } : Go.Oper) := rfl
theorem ops_83_7_16 : ops_83_7[16]? = some ({ dst := some 47, op := Go.Op.call { callee := Go.Callee.value (Go.Operand.func 54), args := #[Go.Operand.tmp 46, Go.Operand.const (Go.Value.int Go.IntKind.i64 10)], argTypes := #[4, 35] }, type := 35, pos := "lineup.go:56", after := #[{ on := 15, ground := Go.Ground.data }, { on := 15, ground := Go.Ground.chain }], guard := none } : Go.Oper) := rfl
theorem ops_83_7_17 : ops_83_7[17]? = some ({ dst := some 48, op := Go.Op.buildSlice 95 3 #[(0, Go.Operand.tmp 32), (1, Go.Operand.tmp 40), (2, Go.Operand.tmp 47)], type := 95, pos := "lineup.go:53", after := #[{ on := 1, ground := Go.Ground.data }, { on := 9, ground := Go.Ground.data }, { on := 16, ground := Go.Ground.data }], guard := none } : Go.Oper) := rfl
theorem ops_83_7_18 : ops_83_7[18]? = some ({ dst := some 49, op := Go.Op.call { callee := Go.Callee.value (Go.Operand.func 53), args := #[Go.Operand.tmp 48], argTypes := #[95] }, type := 35, pos := "lineup.go:53", after := #[{ on := 17, ground := Go.Ground.data }, { on := 16, ground := Go.Ground.chain }], guard := none } : Go.Oper) := rfl
theorem ops_83_7_19 : ops_83_7[19]? = some ({ dst := some 5, op := Go.Op.assign (Go.Operand.tmp 49), type := 35, pos := "lineup.go:53", after := #[{ on := 18, ground := Go.Ground.data }, { on := 18, ground := Go.Ground.chain }, { on := 0, ground := Go.Ground.phase }, { on := 1, ground := Go.Ground.phase }, { on := 2, ground := Go.Ground.phase }, { on := 3, ground := Go.Ground.phase }, { on := 4, ground := Go.Ground.phase }, { on := 5, ground := Go.Ground.phase }, { on := 6, ground := Go.Ground.phase }, { on := 7, ground := Go.Ground.phase }, { on := 8, ground := Go.Ground.phase }, { on := 9, ground := Go.Ground.phase }, { on := 10, ground := Go.Ground.phase }, { on := 11, ground := Go.Ground.phase }, { on := 12, ground := Go.Ground.phase }, { on := 13, ground := Go.Ground.phase }, { on := 14, ground := Go.Ground.phase }, { on := 15, ground := Go.Ground.phase }, { on := 16, ground := Go.Ground.phase }, { on := 17, ground := Go.Ground.phase }, { on := 18, ground := Go.Ground.phase }], guard := none } : Go.Oper) := rfl
theorem ops_83_7_ns : Go.Region.noSelect ops_83_7 = true := by kernel_rfl
def ops_26_1 : Array Go.Oper := #[
  { dst := some 8, op := Go.Op.load 26 (Go.Operand.tmp 3), type := 26, pos := "lineup.go:41", after := #[], guard := none },
  { dst := some 9, op := Go.Op.load 28 (Go.Operand.tmp 4), type := 28, pos := "lineup.go:41", after := #[], guard := none },
  { dst := some 10, op := Go.Op.call { callee := Go.Callee.value (Go.Operand.func 82), args := #[Go.Operand.tmp 8, Go.Operand.tmp 9], argTypes := #[26, 28] }, type := 35, pos := "lineup.go:41", after := #[{ on := 0, ground := Go.Ground.data }, { on := 1, ground := Go.Ground.data }], guard := none },
  { dst := some 11, op := Go.Op.load 30 (Go.Operand.tmp 5), type := 30, pos := "lineup.go:41", after := #[], guard := none },
  { dst := some 12, op := Go.Op.call { callee := Go.Callee.builtin Go.Builtin.len, args := #[Go.Operand.tmp 11], argTypes := #[30] }, type := 3, pos := "lineup.go:41", after := #[{ on := 3, ground := Go.Ground.data }], guard := none },
  { dst := some 13, op := Go.Op.load 26 (Go.Operand.tmp 3), type := 26, pos := "lineup.go:41", after := #[], guard := none },
  { dst := some 14, op := Go.Op.call { callee := Go.Callee.builtin Go.Builtin.len, args := #[Go.Operand.tmp 13], argTypes := #[26] }, type := 3, pos := "lineup.go:41", after := #[{ on := 5, ground := Go.Ground.data }], guard := none },
  { dst := some 15, op := Go.Op.binOp Go.BinOp.eql 3 (Go.Operand.tmp 12) (Go.Operand.tmp 14) 3, type := 4, pos := "lineup.go:41", after := #[{ on := 4, ground := Go.Ground.data }, { on := 6, ground := Go.Ground.data }], guard := none },
  { dst := some 16, op := Go.Op.call { callee := Go.Callee.value (Go.Operand.func 54), args := #[Go.Operand.tmp 15, Go.Operand.const (Go.Value.int Go.IntKind.i64 3)], argTypes := #[4, 35] }, type := 35, pos := "lineup.go:41", after := #[{ on := 7, ground := Go.Ground.data }, { on := 2, ground := Go.Ground.chain }], guard := none },
  { dst := some 17, op := Go.Op.buildSlice 95 2 #[(0, Go.Operand.tmp 10), (1, Go.Operand.tmp 16)], type := 95, pos := "lineup.go:41", after := #[{ on := 2, ground := Go.Ground.data }, { on := 8, ground := Go.Ground.data }], guard := none },
  { dst := some 18, op := Go.Op.call { callee := Go.Callee.value (Go.Operand.func 53), args := #[Go.Operand.tmp 17], argTypes := #[95] }, type := 35, pos := "lineup.go:41", after := #[{ on := 9, ground := Go.Ground.data }, { on := 8, ground := Go.Ground.chain }], guard := none },
  { dst := some 7, op := Go.Op.assign (Go.Operand.tmp 18), type := 35, pos := "lineup.go:41", after := #[{ on := 10, ground := Go.Ground.data }, { on := 10, ground := Go.Ground.chain }, { on := 0, ground := Go.Ground.phase }, { on := 1, ground := Go.Ground.phase }, { on := 2, ground := Go.Ground.phase }, { on := 3, ground := Go.Ground.phase }, { on := 4, ground := Go.Ground.phase }, { on := 5, ground := Go.Ground.phase }, { on := 6, ground := Go.Ground.phase }, { on := 7, ground := Go.Ground.phase }, { on := 8, ground := Go.Ground.phase }, { on := 9, ground := Go.Ground.phase }, { on := 10, ground := Go.Ground.phase }], guard := none }]
theorem ops_26_1_0 : ops_26_1[0]? = some ({ dst := some 8, op := Go.Op.load 26 (Go.Operand.tmp 3), type := 26, pos := "lineup.go:41", after := #[], guard := none } : Go.Oper) := rfl
theorem ops_26_1_1 : ops_26_1[1]? = some ({ dst := some 9, op := Go.Op.load 28 (Go.Operand.tmp 4), type := 28, pos := "lineup.go:41", after := #[], guard := none } : Go.Oper) := rfl
theorem ops_26_1_2 : ops_26_1[2]? = some ({ dst := some 10, op := Go.Op.call { callee := Go.Callee.value (Go.Operand.func 82), args := #[Go.Operand.tmp 8, Go.Operand.tmp 9], argTypes := #[26, 28] }, type := 35, pos := "lineup.go:41", after := #[{ on := 0, ground := Go.Ground.data }, { on := 1, ground := Go.Ground.data }], guard := none } : Go.Oper) := rfl
theorem ops_26_1_3 : ops_26_1[3]? = some ({ dst := some 11, op := Go.Op.load 30 (Go.Operand.tmp 5), type := 30, pos := "lineup.go:41", after := #[], guard := none } : Go.Oper) := rfl
theorem ops_26_1_4 : ops_26_1[4]? = some ({ dst := some 12, op := Go.Op.call { callee := Go.Callee.builtin Go.Builtin.len, args := #[Go.Operand.tmp 11], argTypes := #[30] }, type := 3, pos := "lineup.go:41", after := #[{ on := 3, ground := Go.Ground.data }], guard := none } : Go.Oper) := rfl
theorem ops_26_1_5 : ops_26_1[5]? = some ({ dst := some 13, op := Go.Op.load 26 (Go.Operand.tmp 3), type := 26, pos := "lineup.go:41", after := #[], guard := none } : Go.Oper) := rfl
theorem ops_26_1_6 : ops_26_1[6]? = some ({ dst := some 14, op := Go.Op.call { callee := Go.Callee.builtin Go.Builtin.len, args := #[Go.Operand.tmp 13], argTypes := #[26] }, type := 3, pos := "lineup.go:41", after := #[{ on := 5, ground := Go.Ground.data }], guard := none } : Go.Oper) := rfl
theorem ops_26_1_7 : ops_26_1[7]? = some ({ dst := some 15, op := Go.Op.binOp Go.BinOp.eql 3 (Go.Operand.tmp 12) (Go.Operand.tmp 14) 3, type := 4, pos := "lineup.go:41", after := #[{ on := 4, ground := Go.Ground.data }, { on := 6, ground := Go.Ground.data }], guard := none } : Go.Oper) := rfl
theorem ops_26_1_8 : ops_26_1[8]? = some ({ dst := some 16, op := Go.Op.call { callee := Go.Callee.value (Go.Operand.func 54), args := #[Go.Operand.tmp 15, Go.Operand.const (Go.Value.int Go.IntKind.i64 3)], argTypes := #[4, 35] }, type := 35, pos := "lineup.go:41", after := #[{ on := 7, ground := Go.Ground.data }, { on := 2, ground := Go.Ground.chain }], guard := none } : Go.Oper) := rfl
theorem ops_26_1_9 : ops_26_1[9]? = some ({ dst := some 17, op := Go.Op.buildSlice 95 2 #[(0, Go.Operand.tmp 10), (1, Go.Operand.tmp 16)], type := 95, pos := "lineup.go:41", after := #[{ on := 2, ground := Go.Ground.data }, { on := 8, ground := Go.Ground.data }], guard := none } : Go.Oper) := rfl
theorem ops_26_1_10 : ops_26_1[10]? = some ({ dst := some 18, op := Go.Op.call { callee := Go.Callee.value (Go.Operand.func 53), args := #[Go.Operand.tmp 17], argTypes := #[95] }, type := 35, pos := "lineup.go:41", after := #[{ on := 9, ground := Go.Ground.data }, { on := 8, ground := Go.Ground.chain }], guard := none } : Go.Oper) := rfl
theorem ops_26_1_11 : ops_26_1[11]? = some ({ dst := some 7, op := Go.Op.assign (Go.Operand.tmp 18), type := 35, pos := "lineup.go:41", after := #[{ on := 10, ground := Go.Ground.data }, { on := 10, ground := Go.Ground.chain }, { on := 0, ground := Go.Ground.phase }, { on := 1, ground := Go.Ground.phase }, { on := 2, ground := Go.Ground.phase }, { on := 3, ground := Go.Ground.phase }, { on := 4, ground := Go.Ground.phase }, { on := 5, ground := Go.Ground.phase }, { on := 6, ground := Go.Ground.phase }, { on := 7, ground := Go.Ground.phase }, { on := 8, ground := Go.Ground.phase }, { on := 9, ground := Go.Ground.phase }, { on := 10, ground := Go.Ground.phase }], guard := none } : Go.Oper) := rfl
theorem ops_26_1_ns : Go.Region.noSelect ops_26_1 = true := by kernel_rfl
set_option maxRecDepth 100000 in
set_option maxHeartbeats 16000000 in
theorem checkFills1_calls (b1 b2 b3 g off cap h hoff hcap i lo lo' lo3 : Nat) (u : Value) (ss : List SlD) (cs : List ScD) (fs : List FiD) (f : FiD) (s : SlD) (w : World) (hi : fs[i]? = some f) (hs : ss[i]? = some s) (hn : fs.length ≤ 1000000)
    (h1 : w.cell? ⟨b1, 0, none⟩ = some (.slice (some ⟨g, off, none⟩) fs.length cap)) (hF : Fis w lo3 (.slice (some ⟨g, off, none⟩) fs.length cap) fs)
    (h2 : w.cell? ⟨b2, 0, none⟩ = some (.slice (some ⟨h, hoff, none⟩) ss.length hcap)) (hS : Sls w lo' (.slice (some ⟨h, hoff, none⟩) ss.length hcap) ss)
    (h3 : w.cell? ⟨b3, 0, none⟩ = some u) (hC : Scs w lo u cs) (hlo : lo ≤ w.heap.size) :
    Calls Tryz.prog 83 #[.int .i64 (i : Int), .pointer (some ⟨b1, 0, none⟩), .pointer (some ⟨b2, 0, none⟩), .pointer (some ⟨b3, 0, none⟩)] w (IntBelow (chF ss cs fs i) w) := by
  have hlt : i < fs.length := (List.getElem?_eq_some_iff.1 hi).1
  have hls : i < ss.length := (List.getElem?_eq_some_iff.1 hs).1
  rcases fis_at hF with ⟨e, _⟩ | ⟨g', off', cap', e, _, _, _, hcell⟩
  · cases e
  simp only [Value.slice.injEq, Option.some.injEq, Addr.mk.injEq, and_true, true_and] at e
  obtain ⟨⟨rfl, rfl⟩, rfl⟩ := e
  obtain ⟨f0, f1⟩ := hcell i f hi
  clear hcell
  rcases sls_at hS with ⟨e, _⟩ | ⟨g', off', cap', e, _, _, _, hcell⟩
  · cases e
  simp only [Value.slice.injEq, Option.some.injEq, Addr.mk.injEq, and_true, true_and] at e
  obtain ⟨⟨rfl, rfl⟩, rfl⟩ := e
  obtain ⟨pv, s0, s1, hpv⟩ := hcell i s hs
  have Hpv := Lib.hid hpv
  obtain ⟨pa, pc, rfl⟩ := strs_shape hpv
  have hlt' : (i : Int) < (fs.length : Int) := by omega
  have hls' : (i : Int) < (ss.length : Int) := by omega
  have hfit : fs.length ≤ cap := by have := Rows.fits hF; simpa using this
  have hic : i ≤ cap := by omega
  have hil : i ≤ fs.length := by omega
  have HT := Lib.hid (fis_take hF (m := i) rfl (by omega))
  have HC := Lib.hid hC
  obtain ⟨a, c, rfl⟩ := NRows.shape hC
  have Hr := Lib.hid (show chF ss cs fs i = if beqS f.slot s.key = false then 8 else if f.who.size = 0 then 0 else firstE [unlessE (knownB (cs.map ScD.who) f.who) 8, unlessE (!inF (fs.take i) f.who) 6, unlessE (suitB (fndC cs f.who) s) 10] by unfold chF; rw [fiAt_some hi, slAt_some hs])
  generalize chF ss cs fs i = R at Hr ⊢
  obtain ⟨W, hW⟩ : ∃ W, W = w.alloc (.cells #[.string f.slot, .string f.who] 49) := ⟨_, rfl⟩
  have hwW : Below w.heap.size w W := by rw [hW]; exact below_alloc w _
  have hx : W.heap[w.heap.size]? = some (.cells #[.string f.slot, .string f.who] 49 (0, 0)) := by rw [hW]; exact heap_alloc_new w _
  have x0 := cell_at hx 0 rfl
  have x1 := cell_at hx 1 rfl
  have HS := Lib.hid (show ∀ w', Below W.heap.size W w' → (Below W.heap.size W w' ∧ w'.cell? ⟨b1, 0, none⟩ = some (.slice (some ⟨g, off, none⟩) fs.length cap) ∧ w'.cell? ⟨b2, 0, none⟩ = some (.slice (some ⟨h, hoff, none⟩) ss.length hcap) ∧ w'.cell? ⟨b3, 0, none⟩ = some (.slice a cs.length c) ∧ w'.cell? ⟨w.heap.size, 0, none⟩ = some (.string f.slot) ∧ w'.cell? ⟨w.heap.size, 1, none⟩ = some (.string f.who) ∧ w'.cell? ⟨h, hoff + i * 2, none⟩ = some (.string s.key) ∧ w'.cell? ⟨h, hoff + i * 2 + 1, none⟩ = some (.slice pa s.pos.length pc)) from fun w' hb => ⟨hb, below_cell hb (below_cell hwW h1), below_cell hb (below_cell hwW h2), below_cell hb (below_cell hwW h3), below_cell hb x0, below_cell hb x1, below_cell hb (below_cell hwW s0), below_cell hb (below_cell hwW s1)⟩)
  have hb0 := (Below.refl W.heap.size W).drew
  have e1 : (!(f.slot.toList == s.key.toList)) = !beqS f.slot s.key := rfl
  clear hC hF hS hi hs hcell h2 h3 s0 s1 hx x0 x1 hpv
  go_enter Tryz.func83, Tryz.ntmps83
  go_upto_region 2 with fail
  rw [← hW]
  clear hW h1 f0 f1
  show Code.wp _ (Code.region 2 ops_83_2 true) _ _ _
  refine region_start 8 (fun w' => Below W.heap.size W w' ∧ w'.cell? ⟨b1, 0, none⟩ = some (.slice (some ⟨g, off, none⟩) fs.length cap) ∧ w'.cell? ⟨b2, 0, none⟩ = some (.slice (some ⟨h, hoff, none⟩) ss.length hcap) ∧ w'.cell? ⟨b3, 0, none⟩ = some (.slice a cs.length c) ∧ w'.cell? ⟨w.heap.size, 0, none⟩ = some (.string f.slot) ∧ w'.cell? ⟨w.heap.size, 1, none⟩ = some (.string f.who) ∧ w'.cell? ⟨h, hoff + i * 2, none⟩ = some (.string s.key) ∧ w'.cell? ⟨h, hoff + i * 2 + 1, none⟩ = some (.slice pa s.pos.length pc)) (by kernel_rfl) rfl ?_ (fun hHeld => ?_)
  · (exact HS.out _ (by first | assumption | exact hHeld.1 | exact below_step hHeld.1 (by assumption) | exact below_step hHeld.1 (below_alloc _ _)))
  refine take_to 0 13 #[true, false, false, false, false, false, false, false] (v := ?_) ops_83_2_0 rfl ops_83_2_ns (by kernel_rfl) (by kernel_rfl) (fun _ _ _ h => h) (by rfl) ?y02 (by assumption) ?_
  case y02 =>
    intro w hSw
    try dsimp only at hSw
    go_simp
    try with_reducible rfl
  simp only [List.set_cons_zero, List.set_cons_succ]
  refine take_to 1 14 #[true, true, false, false, false, false, false, false] (v := ?_) ops_83_2_1 rfl ops_83_2_ns (by kernel_rfl) (by kernel_rfl) (fun _ _ _ h => h) (by rfl) ?y12 (by assumption) ?_
  case y12 =>
    intro w hSw
    try dsimp only at hSw
    go_simp
    try with_reducible rfl
  simp only [List.set_cons_zero, List.set_cons_succ]
  refine take_to 2 15 #[true, true, true, false, false, false, false, false] (v := ?_) ops_83_2_2 rfl ops_83_2_ns (by kernel_rfl) (by kernel_rfl) (fun _ _ _ h => h) (by rfl) ?y22 (by assumption) ?_
  case y22 =>
    intro w hSw
    try dsimp only at hSw
    go_simp
    try with_reducible rfl
  simp only [List.set_cons_zero, List.set_cons_succ]
  refine take_to 3 16 #[true, true, true, true, false, false, false, false] (v := ?_) ops_83_2_3 rfl ops_83_2_ns (by kernel_rfl) (by kernel_rfl) (fun _ _ _ h => h) (by rfl) ?y32 (by assumption) ?_
  case y32 =>
    intro w hSw
    try dsimp only at hSw
    go_simp
    try with_reducible rfl
  simp only [List.set_cons_zero, List.set_cons_succ]
  refine take_to 4 17 #[true, true, true, true, true, false, false, false] (v := ?_) ops_83_2_4 rfl ops_83_2_ns (by kernel_rfl) (by kernel_rfl) (fun _ _ _ h => h) (by rfl) ?y42 (by assumption) ?_
  case y42 =>
    intro w hSw
    try dsimp only at hSw
    go_simp
    try with_reducible rfl
  simp only [List.set_cons_zero, List.set_cons_succ]
  refine take_to 5 18 #[true, true, true, true, true, true, false, false] (v := ?_) ops_83_2_5 rfl ops_83_2_ns (by kernel_rfl) (by kernel_rfl) (fun _ _ _ h => h) (by rfl) ?y52 (by assumption) ?_
  case y52 =>
    intro w hSw
    try dsimp only at hSw
    go_simp
    try with_reducible rfl
  simp only [List.set_cons_zero, List.set_cons_succ]
  refine take_to 6 19 #[true, true, true, true, true, true, true, false] (v := ?_) ops_83_2_6 rfl ops_83_2_ns (by kernel_rfl) (by kernel_rfl) (fun _ _ _ h => h) (by rfl) ?y62 (by assumption) ?_
  case y62 =>
    intro w hSw
    try dsimp only at hSw
    go_simp
    try with_reducible rfl
  simp only [List.set_cons_zero, List.set_cons_succ]
  refine take_to 7 20 #[true, true, true, true, true, true, true, true] (v := ?_) ops_83_2_7 rfl ops_83_2_ns (by kernel_rfl) (by kernel_rfl) (fun _ _ _ h => h) (by rfl) ?y72 (by assumption) ?_
  case y72 =>
    intro w hSw
    try dsimp only at hSw
    go_simp
    try with_reducible rfl
  simp only [List.set_cons_zero, List.set_cons_succ]
  refine wpAnyH_done (by kernel_rfl) ?_ _
  have hb1 := hHeld.1
  obtain ⟨-, d1, d2, d3, d4, d5, d6, d7⟩ := hHeld
  cases hq : beqS f.slot s.key
  · rw [hq] at Hr
    rw [hq] at e1
    clear hq d1 d2 d3 d4 d5 d6 d7
    go_wp2_with fail
    go_ret
    exact ⟨ret_int (by rw [Hr.out]; rfl), below_step hwW hb1⟩
  · rw [hq] at Hr
    clear hq e1
    by_cases hz : f.who.size = 0
    · have e2 : f.who.toList.isEmpty = true := by rw [empty_of]; exact decide_eq_true hz
      have Hz := Lib.hid hz
      clear hz d1 d2 d3 d4 d6 d7
      go_wp2_with fail
      go_ret
      exact ⟨ret_int (by rw [Hr.out, if_neg (by simp), if_pos Hz.out]), below_step hwW hb1⟩
    · have e2 : f.who.toList.isEmpty = false := by rw [empty_of]; exact decide_eq_false hz
      rw [if_neg (by simp), if_neg hz] at Hr
      have CF := Lib.hid (find_calls lo _ cs f.who _ (NRows.below HC.out (below_step hwW hb1)) (Nat.le_trans hlo (Nat.le_trans hwW.size hb1.size)))
      generalize knownB (cs.map ScD.who) f.who = KB at Hr CF
      generalize fndC cs f.who = Fc at Hr CF
      clear hz d1 d2 d4 d6 d7
      go_wp2_with fail
      refine CF.out.mono ?_
      rintro e w5 ⟨x, rfl, hx, hb5⟩
      have hb15 := below_step hb1 hb5
      have Hx := Lib.hid hx
      obtain ⟨xa, xc, rfl⟩ := strs_shape hx
      clear CF hx hb5 e2 d3 d5
      go_upto_region 7 with fail
      obtain ⟨W7, hW7⟩ : ∃ W7, W7 = w5.alloc (.cells #[.string Fc.who, .slice xa Fc.pos.length xc, .int .i64 Fc.num, .int .i64 Fc.den, .bool Fc.played] 83) := ⟨_, rfl⟩
      have hb7 : Below W.heap.size W W7 := by rw [hW7]; exact below_step hb15 (below_alloc w5 _)
      have hx7 : W7.heap[w5.heap.size]? = some (.cells #[.string Fc.who, .slice xa Fc.pos.length xc, .int .i64 Fc.num, .int .i64 Fc.den, .bool Fc.played] 83 (0, 0)) := by rw [hW7]; exact heap_alloc_new w5 _
      have Hx7 := Lib.hid (Hx.out.below (show Below w5.heap.size w5 W7 by rw [hW7]; exact below_alloc w5 _))
      have y0 := cell_at hx7 0 rfl
      have y1 := cell_at hx7 1 rfl
      have y2 := cell_at hx7 2 rfl
      have y3 := cell_at hx7 3 rfl
      have y4 := cell_at hx7 4 rfl
      rw [← hW7]
      have hb07 := below_step hwW hb7
      have Hz7 := Lib.hid hb7
      have HS7 := Lib.hid (show ∀ w', Below W7.heap.size W7 w' → (Below W7.heap.size W7 w' ∧ w'.cell? ⟨b1, 0, none⟩ = some (.slice (some ⟨g, off, none⟩) fs.length cap) ∧ w'.cell? ⟨b2, 0, none⟩ = some (.slice (some ⟨h, hoff, none⟩) ss.length hcap) ∧ w'.cell? ⟨w.heap.size, 1, none⟩ = some (.string f.who) ∧ w'.cell? ⟨h, hoff + i * 2, none⟩ = some (.string s.key) ∧ w'.cell? ⟨h, hoff + i * 2 + 1, none⟩ = some (.slice pa s.pos.length pc) ∧ w'.cell? ⟨w5.heap.size, 0, none⟩ = some (.string Fc.who) ∧ w'.cell? ⟨w5.heap.size, 1, none⟩ = some (.slice xa Fc.pos.length xc) ∧ w'.cell? ⟨w5.heap.size, 2, none⟩ = some (.int .i64 Fc.num) ∧ w'.cell? ⟨w5.heap.size, 3, none⟩ = some (.int .i64 Fc.den) ∧ w'.cell? ⟨w5.heap.size, 4, none⟩ = some (.bool Fc.played)) from fun w' hb => ⟨hb, (HS.out _ (below_step Hz7.out hb)).2.1, (HS.out _ (below_step Hz7.out hb)).2.2.1, (HS.out _ (below_step Hz7.out hb)).2.2.2.2.2.1, (HS.out _ (below_step Hz7.out hb)).2.2.2.2.2.2.1, (HS.out _ (below_step Hz7.out hb)).2.2.2.2.2.2.2, below_cell hb y0, below_cell hb y1, below_cell hb y2, below_cell hb y3, below_cell hb y4⟩)
      have hb0 := (Below.refl W7.heap.size W7).drew
      generalize hX7 : w5.heap.size = X7 at HS7 hx7 y0 y1 y2 y3 y4 ⊢
      clear hW7 hx7 y0 y1 y2 y3 y4 hX7 hb15 hb1 hb7 Hx
      show Code.wp _ (Code.region 7 ops_83_7 true) _ _ _
      refine region_start 20 (fun w' => Below W7.heap.size W7 w' ∧ w'.cell? ⟨b1, 0, none⟩ = some (.slice (some ⟨g, off, none⟩) fs.length cap) ∧ w'.cell? ⟨b2, 0, none⟩ = some (.slice (some ⟨h, hoff, none⟩) ss.length hcap) ∧ w'.cell? ⟨w.heap.size, 1, none⟩ = some (.string f.who) ∧ w'.cell? ⟨h, hoff + i * 2, none⟩ = some (.string s.key) ∧ w'.cell? ⟨h, hoff + i * 2 + 1, none⟩ = some (.slice pa s.pos.length pc) ∧ w'.cell? ⟨X7, 0, none⟩ = some (.string Fc.who) ∧ w'.cell? ⟨X7, 1, none⟩ = some (.slice xa Fc.pos.length xc) ∧ w'.cell? ⟨X7, 2, none⟩ = some (.int .i64 Fc.num) ∧ w'.cell? ⟨X7, 3, none⟩ = some (.int .i64 Fc.den) ∧ w'.cell? ⟨X7, 4, none⟩ = some (.bool Fc.played)) (by kernel_rfl) rfl ?_ (fun hHeld => ?_)
      · (exact HS7.out _ (by first | assumption | exact hHeld.1 | exact below_step hHeld.1 (by assumption) | exact below_step hHeld.1 (below_alloc _ _)))
      refine take_to 0 31 #[true, false, false, false, false, false, false, false, false, false, false, false, false, false, false, false, false, false, false, false] (v := ?_) ops_83_7_0 rfl ops_83_7_ns (by kernel_rfl) (by kernel_rfl) (fun _ _ _ h => h) (by rfl) ?y07 (by assumption) ?_
      case y07 =>
        intro w hSw
        try dsimp only at hSw
        go_simp
        try with_reducible rfl
      simp only [List.set_cons_zero, List.set_cons_succ]
      refine take_to 2 33 #[true, false, true, false, false, false, false, false, false, false, false, false, false, false, false, false, false, false, false, false] (v := ?_) ops_83_7_2 rfl ops_83_7_ns (by kernel_rfl) (by kernel_rfl) (fun _ _ _ h => h) (by rfl) ?y27 (by assumption) ?_
      case y27 =>
        intro w hSw
        try dsimp only at hSw
        go_simp
        try with_reducible rfl
      simp only [List.set_cons_zero, List.set_cons_succ]
      refine take_to 3 34 #[true, false, true, true, false, false, false, false, false, false, false, false, false, false, false, false, false, false, false, false] (v := ?_) ops_83_7_3 rfl ops_83_7_ns (by kernel_rfl) (by kernel_rfl) (fun _ _ _ h => h) (by rfl) ?y37 (by assumption) ?_
      case y37 =>
        intro w hSw
        try dsimp only at hSw
        go_simp
        try with_reducible rfl
      simp only [List.set_cons_zero, List.set_cons_succ]
      refine take_to 4 35 #[true, false, true, true, true, false, false, false, false, false, false, false, false, false, false, false, false, false, false, false] (v := ?_) ops_83_7_4 rfl ops_83_7_ns (by kernel_rfl) (by kernel_rfl) (fun _ _ _ h => h) (by rfl) ?y47 (by assumption) ?_
      case y47 =>
        intro w hSw
        try dsimp only at hSw
        go_simp
        try with_reducible rfl
      simp only [List.set_cons_zero, List.set_cons_succ]
      refine take_to 5 36 #[true, false, true, true, true, true, false, false, false, false, false, false, false, false, false, false, false, false, false, false] (v := ?_) ops_83_7_5 rfl ops_83_7_ns (by kernel_rfl) (by kernel_rfl) (fun _ _ _ h => h) (by rfl) ?y57 (by assumption) ?_
      case y57 =>
        intro w hSw
        try dsimp only at hSw
        go_simp
        try with_reducible rfl
      simp only [List.set_cons_zero, List.set_cons_succ]
      refine take_to 6 37 #[true, false, true, true, true, true, true, false, false, false, false, false, false, false, false, false, false, false, false, false] (v := ?_) ops_83_7_6 rfl ops_83_7_ns (by kernel_rfl) (by kernel_rfl) (fun _ _ _ h => h) (by rfl) ?y67 (by assumption) ?_
      case y67 =>
        intro w hSw
        try dsimp only at hSw
        go_simp
        try with_reducible rfl
      simp only [List.set_cons_zero, List.set_cons_succ]
      refine take_to 10 41 #[true, false, true, true, true, true, true, false, false, false, true, false, false, false, false, false, false, false, false, false] (v := ?_) ops_83_7_10 rfl ops_83_7_ns (by kernel_rfl) (by kernel_rfl) (fun _ _ _ h => h) (by rfl) ?y107 (by assumption) ?_
      case y107 =>
        intro w hSw
        try dsimp only at hSw
        go_simp
        try with_reducible rfl
      simp only [List.set_cons_zero, List.set_cons_succ]
      refine take_to 11 42 #[true, false, true, true, true, true, true, false, false, false, true, true, false, false, false, false, false, false, false, false] (v := ?_) ops_83_7_11 rfl ops_83_7_ns (by kernel_rfl) (by kernel_rfl) (fun _ _ _ h => h) (by rfl) ?y117 (by assumption) ?_
      case y117 =>
        intro w hSw
        try dsimp only at hSw
        go_simp
        try with_reducible rfl
      simp only [List.set_cons_zero, List.set_cons_succ]
      refine take_to 12 43 #[true, false, true, true, true, true, true, false, false, false, true, true, true, false, false, false, false, false, false, false] (v := ?_) ops_83_7_12 rfl ops_83_7_ns (by kernel_rfl) (by kernel_rfl) (fun _ _ _ h => h) (by rfl) ?y127 (by assumption) ?_
      case y127 =>
        intro w hSw
        try dsimp only at hSw
        go_simp
        try with_reducible rfl
      simp only [List.set_cons_zero, List.set_cons_succ]
      refine take_to 13 44 #[true, false, true, true, true, true, true, false, false, false, true, true, true, true, false, false, false, false, false, false] (v := ?_) ops_83_7_13 rfl ops_83_7_ns (by kernel_rfl) (by kernel_rfl) (fun _ _ _ h => h) (by rfl) ?y137 (by assumption) ?_
      case y137 =>
        intro w hSw
        try dsimp only at hSw
        go_simp
        try with_reducible rfl
      simp only [List.set_cons_zero, List.set_cons_succ]
      refine take_to 14 45 #[true, false, true, true, true, true, true, false, false, false, true, true, true, true, true, false, false, false, false, false] (v := ?_) ops_83_7_14 rfl ops_83_7_ns (by kernel_rfl) (by kernel_rfl) (fun _ _ _ h => h) (by rfl) ?y147 (by assumption) ?_
      case y147 =>
        intro w hSw
        try dsimp only at hSw
        go_simp
        try with_reducible rfl
      simp only [List.set_cons_zero, List.set_cons_succ]
      refine run_to 1 #[true, true, true, true, true, true, true, false, false, false, true, true, true, true, true, false, false, false, false, false] ops_83_7_1 (by kernel_rfl) (by kernel_rfl) (by rfl) (fun K hK => ?_)
      go_simp
      refine (unless_calls _ _ _).mono ?_
      rintro e w' ⟨rfl, rfl⟩
      go_wp2_with fail
      refine hK.out _ _ ?_ (fun hHeld => ?_)
      · (exact HS7.out _ (by first | assumption | exact hHeld.1 | exact below_step hHeld.1 (by assumption) | exact below_step hHeld.1 (below_alloc _ _)))
      clear hK K
      try simp only [Act.put, List.setIfInBounds_toArray, List.set_cons_zero, List.set_cons_succ]
      refine run_to 7 #[true, true, true, true, true, true, true, true, false, false, true, true, true, true, true, false, false, false, false, false] ops_83_7_7 (by kernel_rfl) (by kernel_rfl) (by rfl) (fun K hK => ?_)
      go_simp
      refine (fielded_calls lo3 _ (fs.take i) f.who _ (HT.out.below (hb07.trans (hHeld.1.mono hb07.size)))).mono ?_
      rintro e w' ⟨rfl, hb⟩
      go_wp2_with fail
      refine hK.out _ _ ?_ (fun hHeld => ?_)
      · (exact HS7.out _ (by first | assumption | exact hHeld.1 | exact below_step hHeld.1 (by assumption) | exact below_step hHeld.1 (below_alloc _ _)))
      clear hK K
      try simp only [Act.put, List.setIfInBounds_toArray, List.set_cons_zero, List.set_cons_succ]
      refine take_to 8 39 #[true, true, true, true, true, true, true, true, true, false, true, true, true, true, true, false, false, false, false, false] (v := ?_) ops_83_7_8 rfl ops_83_7_ns (by kernel_rfl) (by kernel_rfl) (fun _ _ _ h => h) (by rfl) ?y87 (by assumption) ?_
      case y87 =>
        intro w hSw
        try dsimp only at hSw
        go_simp
        try with_reducible rfl
      simp only [List.set_cons_zero, List.set_cons_succ]
      refine run_to 9 #[true, true, true, true, true, true, true, true, true, true, true, true, true, true, true, false, false, false, false, false] ops_83_7_9 (by kernel_rfl) (by kernel_rfl) (by rfl) (fun K hK => ?_)
      go_simp
      refine (unless_calls _ _ _).mono ?_
      rintro e w' ⟨rfl, rfl⟩
      go_wp2_with fail
      refine hK.out _ _ ?_ (fun hHeld => ?_)
      · (exact HS7.out _ (by first | assumption | exact hHeld.1 | exact below_step hHeld.1 (by assumption) | exact below_step hHeld.1 (below_alloc _ _)))
      clear hK K
      try simp only [Act.put, List.setIfInBounds_toArray, List.set_cons_zero, List.set_cons_succ]
      refine run_to 15 #[true, true, true, true, true, true, true, true, true, true, true, true, true, true, true, true, false, false, false, false] ops_83_7_15 (by kernel_rfl) (by kernel_rfl) (by rfl) (fun K hK => ?_)
      go_simp
      refine (suits_calls _ _ (.slice xa Fc.pos.length xc) (.slice pa s.pos.length pc) Fc s _ (Hx7.out.below hHeld.1) (Hpv.out.below (hb07.trans (hHeld.1.mono hb07.size)))).mono ?_
      rintro e w' ⟨rfl, hb⟩
      go_wp2_with fail
      refine hK.out _ _ ?_ (fun hHeld => ?_)
      · (exact HS7.out _ (by first | assumption | exact hHeld.1 | exact below_step hHeld.1 (by assumption) | exact below_step hHeld.1 (below_alloc _ _)))
      clear hK K
      try simp only [Act.put, List.setIfInBounds_toArray, List.set_cons_zero, List.set_cons_succ]
      refine run_to 16 #[true, true, true, true, true, true, true, true, true, true, true, true, true, true, true, true, true, false, false, false] ops_83_7_16 (by kernel_rfl) (by kernel_rfl) (by rfl) (fun K hK => ?_)
      go_simp
      refine (unless_calls _ _ _).mono ?_
      rintro e w' ⟨rfl, rfl⟩
      go_wp2_with fail
      refine hK.out _ _ ?_ (fun hHeld => ?_)
      · (exact HS7.out _ (by first | assumption | exact hHeld.1 | exact below_step hHeld.1 (by assumption) | exact below_step hHeld.1 (below_alloc _ _)))
      clear hK K
      try simp only [Act.put, List.setIfInBounds_toArray, List.set_cons_zero, List.set_cons_succ]
      refine run_to 17 #[true, true, true, true, true, true, true, true, true, true, true, true, true, true, true, true, true, true, false, false] ops_83_7_17 (by kernel_rfl) (by kernel_rfl) (by rfl) (fun K hK => ?_)
      go_simp
      refine hK.out _ _ ?_ (fun hHeld => ?_)
      · (exact HS7.out _ (by first | assumption | exact hHeld.1 | exact below_step hHeld.1 (by assumption) | exact below_step hHeld.1 (below_alloc _ _)))
      clear hK K
      try simp only [Act.put, List.setIfInBounds_toArray, List.set_cons_zero, List.set_cons_succ]
      refine run_to 18 #[true, true, true, true, true, true, true, true, true, true, true, true, true, true, true, true, true, true, true, false] ops_83_7_18 (by kernel_rfl) (by kernel_rfl) (by rfl) (fun K hK => ?_)
      go_simp
      refine (orE_calls _ 0 3 [unlessE KB 8, unlessE (!inF (fs.take i) f.who) 6, unlessE (suitB Fc s) 10] _ (by simp) (by exact nums3s _ _ _ _ _)).mono ?_
      rintro e w' ⟨rfl, rfl⟩
      go_wp2_with fail
      refine hK.out _ _ ?_ (fun hHeld => ?_)
      · (exact HS7.out _ (by first | assumption | exact hHeld.1 | exact below_step hHeld.1 (by assumption) | exact below_step hHeld.1 (below_alloc _ _)))
      clear hK K
      try simp only [Act.put, List.setIfInBounds_toArray, List.set_cons_zero, List.set_cons_succ]
      refine take_to 19 5 #[true, true, true, true, true, true, true, true, true, true, true, true, true, true, true, true, true, true, true, true] (v := ?_) ops_83_7_19 rfl ops_83_7_ns (by kernel_rfl) (by kernel_rfl) (fun _ _ _ h => h) (by rfl) ?y197 (by assumption) ?_
      case y197 =>
        intro w hSw
        try dsimp only at hSw
        go_simp
        try with_reducible rfl
      simp only [List.set_cons_zero, List.set_cons_succ]
      refine wpAnyH_done (by kernel_rfl) ?_ _
      go_wp2_with fail
      go_ret
      exact ⟨ret_int Hr.out.symm, below_step hb07 hHeld.1⟩
set_option maxRecDepth 100000 in
set_option maxHeartbeats 16000000 in
theorem checkFills_calls (lo lo' lo3 : Nat) (v u z : Value) (ss : List SlD) (cs : List ScD) (fs : List FiD) (w : World) (hS : Sls w lo' v ss) (hs : ∀ c ∈ ss, SmallSl c) (hsn : ss.length ≤ 1000000) (hC : Scs w lo u cs) (hc : ∀ c ∈ cs, SmallSc c) (hcn : cs.length ≤ 1000000) (hlo : lo ≤ w.heap.size) (hF : Fis w lo3 z fs) (hfn : fs.length ≤ 1000000) :
    Calls Tryz.prog 26 #[v, u, z] w (IntBelow (chkFi ss cs fs) w) := by
  obtain ⟨W, hW⟩ : ∃ W, W = ((w.alloc (.cells #[v] 26)).alloc (.cells #[u] 28)).alloc (.cells #[z] 30) := ⟨_, rfl⟩
  have hwW : Below w.heap.size w W := by rw [hW]; exact ((below_alloc w _).trans ((below_alloc _ _).mono (by simp))).trans ((below_alloc _ _).mono (by simp; omega))
  have y0 : W.heap[w.heap.size]? = some (.cells #[v] 26 (0, 0)) := by rw [hW]; exact heap_al (heap_al (heap_alloc_new w _) _) _
  have y1 : W.heap[w.heap.size + 1]? = some (.cells #[u] 28 (0, 0)) := by
    have := heap_alloc_new (w.alloc (.cells #[v] 26)) (.cells #[u] 28)
    rw [World.size_alloc] at this
    rw [hW]; exact heap_al this _
  have y2 : W.heap[w.heap.size + 2]? = some (.cells #[z] 30 (0, 0)) := by
    have := heap_alloc_new ((w.alloc (.cells #[v] 26)).alloc (.cells #[u] 28)) (.cells #[z] 30)
    rw [World.size_alloc, World.size_alloc] at this
    rw [hW]; exact this
  have x0 := cell_at y0 0 rfl
  have x1 := cell_at y1 0 rfl
  have x2 := cell_at y2 0 rfl
  have HSW := Lib.hid (NRows.below hS hwW)
  have HCW := Lib.hid (NRows.below hC hwW)
  have HFW := Lib.hid (Fis.below hF hwW)
  have hloW : lo ≤ W.heap.size := Nat.le_trans hlo hwW.size
  have Hs := Lib.hid hs
  have Hc := Lib.hid hc
  have HF := Lib.hid (show fs.length = ss.length → ∀ (V : World) (i : Nat), i < fs.length → Below W.heap.size W V → Calls Tryz.prog 83 (#[.int .i64 (i : Int)] ++ #[.pointer (some ⟨w.heap.size + 2, 0, none⟩), .pointer (some ⟨w.heap.size, 0, none⟩), .pointer (some ⟨w.heap.size + 1, 0, none⟩)]) V (IntBelow (chF ss cs fs i) V) from by
    intro hl V i hi hb
    obtain ⟨f, hf⟩ : ∃ f, fs[i]? = some f := ⟨_, List.getElem?_eq_getElem hi⟩
    obtain ⟨s, hs⟩ : ∃ s, ss[i]? = some s := ⟨_, List.getElem?_eq_getElem (by omega)⟩
    have hFV := HFW.out.below hb
    have hSV := NRows.below HSW.out hb
    have z2 := below_cell hb x2
    have z0 := below_cell hb x0
    rcases fis_at hFV with ⟨_, h⟩ | ⟨g, off, cap, e, _⟩
    · subst h; simp at hi
    rcases sls_at hSV with ⟨_, h⟩ | ⟨g', off', cap', e', _⟩
    · subst h; simp at hs
    rw [e] at hFV z2
    rw [e'] at hSV z0
    exact checkFills1_calls (w.heap.size + 2) w.heap.size (w.heap.size + 1) g off cap g' off' cap' i lo lo' lo3 u ss cs fs f s V hf hs hfn z2 hFV z0 hSV (below_cell hb x1) (NRows.below HCW.out hb) (Nat.le_trans hloW hb.size))
  have HR := Lib.hid (show chkFi ss cs fs = if ch0 ss cs fs = 0 then eachE fs.length fs.length (chF ss cs fs) else ch0 ss cs fs from rfl)
  have HR0 := Lib.hid (show ch0 ss cs fs = firstE [sdE ss cs, unlessE ((fs.length : Int) == (ss.length : Int)) 3] from rfl)
  have HL := Lib.hid (show ((fs.length : Int) == (ss.length : Int)) = false ∨ (((fs.length : Int) == (ss.length : Int)) = true ∧ fs.length = ss.length) by
    by_cases h : fs.length = ss.length
    · exact .inr ⟨by rw [beq_iff_eq]; omega, h⟩
    · exact .inl (by rw [beq_eq_false_iff_ne]; omega))
  generalize chkFi ss cs fs = R at HR ⊢
  obtain ⟨a, c, rfl⟩ := NRows.shape hS
  obtain ⟨a', c', rfl⟩ := NRows.shape hC
  obtain ⟨a3, c3, rfl⟩ := fis_shape hF
  have HS := Lib.hid (show ∀ w', Below W.heap.size W w' → (Below W.heap.size W w' ∧ w'.cell? ⟨w.heap.size, 0, none⟩ = some (.slice a ss.length c) ∧ w'.cell? ⟨w.heap.size + 1, 0, none⟩ = some (.slice a' cs.length c') ∧ w'.cell? ⟨w.heap.size + 2, 0, none⟩ = some (.slice a3 fs.length c3)) from fun w' hb => ⟨hb, below_cell hb x0, below_cell hb x1, below_cell hb x2⟩)
  have hb0 := (Below.refl W.heap.size W).drew
  clear hS hC hF hs hc y0 y1 y2 x0 x1 x2
  go_enter Tryz.func26, Tryz.ntmps26
  go_upto_region 1 with fail
  rw [← hW]
  clear hW
  show Code.wp _ (Code.region 1 ops_26_1 true) _ _ _
  refine region_start 12 (fun w' => Below W.heap.size W w' ∧ w'.cell? ⟨w.heap.size, 0, none⟩ = some (.slice a ss.length c) ∧ w'.cell? ⟨w.heap.size + 1, 0, none⟩ = some (.slice a' cs.length c') ∧ w'.cell? ⟨w.heap.size + 2, 0, none⟩ = some (.slice a3 fs.length c3)) (by kernel_rfl) rfl ?_ (fun hHeld => ?_)
  · (exact HS.out _ (by first | assumption | exact hHeld.1 | exact below_step hHeld.1 (by assumption) | exact below_step hHeld.1 (below_alloc _ _)))
  refine take_to 0 8 #[true, false, false, false, false, false, false, false, false, false, false, false] (v := ?_) ops_26_1_0 rfl ops_26_1_ns (by kernel_rfl) (by kernel_rfl) (fun _ _ _ h => h) (by rfl) ?y0G (by assumption) ?_
  case y0G =>
    intro w hSw
    try dsimp only at hSw
    go_simp
    try with_reducible rfl
  simp only [List.set_cons_zero, List.set_cons_succ]
  refine take_to 1 9 #[true, true, false, false, false, false, false, false, false, false, false, false] (v := ?_) ops_26_1_1 rfl ops_26_1_ns (by kernel_rfl) (by kernel_rfl) (fun _ _ _ h => h) (by rfl) ?y1G (by assumption) ?_
  case y1G =>
    intro w hSw
    try dsimp only at hSw
    go_simp
    try with_reducible rfl
  simp only [List.set_cons_zero, List.set_cons_succ]
  refine take_to 3 11 #[true, true, false, true, false, false, false, false, false, false, false, false] (v := ?_) ops_26_1_3 rfl ops_26_1_ns (by kernel_rfl) (by kernel_rfl) (fun _ _ _ h => h) (by rfl) ?y3G (by assumption) ?_
  case y3G =>
    intro w hSw
    try dsimp only at hSw
    go_simp
    try with_reducible rfl
  simp only [List.set_cons_zero, List.set_cons_succ]
  refine take_to 4 12 #[true, true, false, true, true, false, false, false, false, false, false, false] (v := ?_) ops_26_1_4 rfl ops_26_1_ns (by kernel_rfl) (by kernel_rfl) (fun _ _ _ h => h) (by rfl) ?y4G (by assumption) ?_
  case y4G =>
    intro w hSw
    try dsimp only at hSw
    go_simp
    try with_reducible rfl
  simp only [List.set_cons_zero, List.set_cons_succ]
  refine take_to 5 13 #[true, true, false, true, true, true, false, false, false, false, false, false] (v := ?_) ops_26_1_5 rfl ops_26_1_ns (by kernel_rfl) (by kernel_rfl) (fun _ _ _ h => h) (by rfl) ?y5G (by assumption) ?_
  case y5G =>
    intro w hSw
    try dsimp only at hSw
    go_simp
    try with_reducible rfl
  simp only [List.set_cons_zero, List.set_cons_succ]
  refine take_to 6 14 #[true, true, false, true, true, true, true, false, false, false, false, false] (v := ?_) ops_26_1_6 rfl ops_26_1_ns (by kernel_rfl) (by kernel_rfl) (fun _ _ _ h => h) (by rfl) ?y6G (by assumption) ?_
  case y6G =>
    intro w hSw
    try dsimp only at hSw
    go_simp
    try with_reducible rfl
  simp only [List.set_cons_zero, List.set_cons_succ]
  refine take_to 7 15 #[true, true, false, true, true, true, true, true, false, false, false, false] (v := ?_) ops_26_1_7 rfl ops_26_1_ns (by kernel_rfl) (by kernel_rfl) (fun _ _ _ h => h) (by rfl) ?y7G (by assumption) ?_
  case y7G =>
    intro w hSw
    try dsimp only at hSw
    go_simp
    try with_reducible rfl
  simp only [List.set_cons_zero, List.set_cons_succ]
  refine run_to 2 #[true, true, true, true, true, true, true, true, false, false, false, false] ops_26_1_2 (by kernel_rfl) (by kernel_rfl) (by rfl) (fun K hK => ?_)
  go_simp
  refine (wrongSides_calls lo' lo _ _ ss cs _ (NRows.below HSW.out hHeld.1) Hs.out hsn (NRows.below HCW.out hHeld.1) Hc.out hcn).mono ?_
  rintro e w' ⟨rfl, hb⟩
  go_wp2_with fail
  refine hK.out _ _ ?_ (fun hHeld => ?_)
  · (exact HS.out _ (by first | assumption | exact hHeld.1 | exact below_step hHeld.1 (by assumption) | exact below_step hHeld.1 (below_alloc _ _)))
  clear hK K
  try simp only [Act.put, List.setIfInBounds_toArray, List.set_cons_zero, List.set_cons_succ]
  refine run_to 8 #[true, true, true, true, true, true, true, true, true, false, false, false] ops_26_1_8 (by kernel_rfl) (by kernel_rfl) (by rfl) (fun K hK => ?_)
  go_simp
  refine (unless_calls _ _ _).mono ?_
  rintro e w' ⟨rfl, rfl⟩
  go_wp2_with fail
  refine hK.out _ _ ?_ (fun hHeld => ?_)
  · (exact HS.out _ (by first | assumption | exact hHeld.1 | exact below_step hHeld.1 (by assumption) | exact below_step hHeld.1 (below_alloc _ _)))
  clear hK K
  try simp only [Act.put, List.setIfInBounds_toArray, List.set_cons_zero, List.set_cons_succ]
  refine run_to 9 #[true, true, true, true, true, true, true, true, true, true, false, false] ops_26_1_9 (by kernel_rfl) (by kernel_rfl) (by rfl) (fun K hK => ?_)
  go_simp
  refine hK.out _ _ ?_ (fun hHeld => ?_)
  · (exact HS.out _ (by first | assumption | exact hHeld.1 | exact below_step hHeld.1 (by assumption) | exact below_step hHeld.1 (below_alloc _ _)))
  clear hK K
  try simp only [Act.put, List.setIfInBounds_toArray, List.set_cons_zero, List.set_cons_succ]
  refine run_to 10 #[true, true, true, true, true, true, true, true, true, true, true, false] ops_26_1_10 (by kernel_rfl) (by kernel_rfl) (by rfl) (fun K hK => ?_)
  go_simp
  refine (orE_calls _ 0 2 [sdE ss cs, unlessE ((fs.length : Int) == (ss.length : Int)) 3] _ (by simp) (by exact nums2 _ _ _ _)).mono ?_
  rintro e w' ⟨rfl, rfl⟩
  go_wp2_with fail
  refine hK.out _ _ ?_ (fun hHeld => ?_)
  · (exact HS.out _ (by first | assumption | exact hHeld.1 | exact below_step hHeld.1 (by assumption) | exact below_step hHeld.1 (below_alloc _ _)))
  clear hK K
  try simp only [Act.put, List.setIfInBounds_toArray, List.set_cons_zero, List.set_cons_succ]
  refine take_to 11 7 #[true, true, true, true, true, true, true, true, true, true, true, true] (v := ?_) ops_26_1_11 rfl ops_26_1_ns (by kernel_rfl) (by kernel_rfl) (fun _ _ _ h => h) (by rfl) ?y11G (by assumption) ?_
  case y11G =>
    intro w hSw
    try dsimp only at hSw
    go_simp
    try with_reducible rfl
  simp only [List.set_cons_zero, List.set_cons_succ]
  refine wpAnyH_done (by kernel_rfl) ?_ _
  have hb1 := hHeld.1
  obtain ⟨-, d0, d1, d2⟩ := hHeld
  rw [← HR0.out]
  by_cases hz : ch0 ss cs fs = 0
  · have hl : fs.length = ss.length := by
      rcases HL.out with h | h
      · rw [HR0.out, h] at hz
        simp [firstE, unlessE] at hz
        split at hz <;> simp_all
      · exact h.2
    have CE := Lib.hid (each_calls 83 #[.pointer (some ⟨w.heap.size + 2, 0, none⟩), .pointer (some ⟨w.heap.size, 0, none⟩), .pointer (some ⟨w.heap.size + 1, 0, none⟩)] (enters_of Tryz.func83 (by kernel_rfl) rfl) (chF ss cs fs) fs.length fs.length _ hfn (fun V i h1 h2 => HF.out hl V i h1 (below_step hb1 h2)))
    have Hz := Lib.hid hz
    rw [hz]
    clear hz hl d0 d1
    go_wp2_with fail
    refine CE.out.mono ?_
    rintro e w' ⟨rfl, hb⟩
    go_wp2_with fail
    go_ret
    exact ⟨ret_int (by rw [HR.out, if_pos Hz.out]), below_step hwW (below_step hb1 hb)⟩
  · have Hz := Lib.hid hz
    have hne : (ch0 ss cs fs == 0) = false := by rw [beq_eq_false_iff_ne]; exact hz
    generalize hX0 : ch0 ss cs fs = X0 at hne HR Hz ⊢
    clear hz d0 d1 d2 hX0
    go_wp2_with fail
    go_ret
    exact ⟨ret_int (by rw [HR.out, if_neg Hz.out]), below_step hwW hb1⟩
end Go.Proofs.YthlfjfmlmcoihaaGreat
/- FillsFault: the same as CheckFills, of right slots and scorers. -/
namespace Go.Proofs.YthlfjfmlmcoihaaGreat
open Go.RowKit

def fiE (ss : List SlD) (cs : List ScD) (fs : List FiD) : Int := if fs.length = ss.length then eachE fs.length fs.length (chF ss cs fs) else 3
theorem fiE_eq {ss : List SlD} {cs : List ScD} {fs : List FiD} (h : sdE ss cs = 0) : chkFi ss cs fs = fiE ss cs fs := by
  unfold chkFi fiE ch0
  rw [h]
  by_cases hl : fs.length = ss.length
  · have e : ((fs.length : Int) == (ss.length : Int)) = true := by rw [beq_iff_eq]; omega
    rw [e, if_pos hl]; simp [firstE, unlessE]
  · have e : ((fs.length : Int) == (ss.length : Int)) = false := by rw [beq_eq_false_iff_ne]; omega
    rw [e, if_neg hl]; simp [firstE, unlessE]
theorem ch_slot {ss : List SlD} {cs : List ScD} {fs : List FiD} {i : Nat} {f : FiD} {s : SlD} (hf : fs[i]? = some f) (hs : ss[i]? = some s) (h : beqS f.slot s.key = false) : chF ss cs fs i = 8 := by
  unfold chF; rw [fiAt_some hf, slAt_some hs, if_pos h]
theorem ch_empty {ss : List SlD} {cs : List ScD} {fs : List FiD} {i : Nat} {f : FiD} {s : SlD} (hf : fs[i]? = some f) (hs : ss[i]? = some s) (h : beqS f.slot s.key = true) (hz : f.who.size = 0) : chF ss cs fs i = 0 := by
  unfold chF; rw [fiAt_some hf, slAt_some hs, if_neg (by rw [h]; simp), if_pos hz]
theorem ch_rest {ss : List SlD} {cs : List ScD} {fs : List FiD} {i : Nat} {f : FiD} {s : SlD} (hf : fs[i]? = some f) (hs : ss[i]? = some s) (h : beqS f.slot s.key = true) (hz : f.who.size ≠ 0) :
    chF ss cs fs i = firstE [unlessE (knownB (cs.map ScD.who) f.who) 8, unlessE (!inF (fs.take i) f.who) 6, unlessE (suitB (fndC cs f.who) s) 10] := by
  unfold chF; rw [fiAt_some hf, slAt_some hs, if_neg (by rw [h]; simp), if_neg hz]
theorem fillsFault1_calls (f : FiD) (k : ByteArray) (X : Nat) (w : World) (hX : w.cell? ⟨X, 1, none⟩ = some (.string k)) :
    Calls Tryz.prog 67 #[.agg #[.string f.slot, .string f.who], .pointer (some ⟨X, 0, none⟩)] w (BoolIs (beqS f.who k) w) := by
  go_enter Tryz.func67, Tryz.ntmps67
  have hX1 := below_cell (below_alloc w (.cells #[.string f.slot, .string f.who] 49)) hX
  go_wp2_with fail
  go_ret
  exact ⟨ret_bool (by unfold beqS; rfl), below_alloc w _⟩
def ops_16_7 : Array Go.Oper := #[
  { dst := some 27, op := Go.Op.fieldAddr 49 (Go.Operand.tmp 8) 0, type := 0, pos := "scores.go:213", after := #[], guard := none },
  { dst := some 28, op := Go.Op.load 9 (Go.Operand.tmp 27), type := 9, pos := "scores.go:213", after := #[{ on := 0, ground := Go.Ground.data }], guard := none },
  { dst := some 29, op := Go.Op.move (Go.Operand.tmp 0), type := 26, pos := "scores.go:213", after := #[], guard := none },
  { dst := some 30, op := Go.Op.move (Go.Operand.tmp 7), type := 3, pos := "scores.go:213", after := #[], guard := none },
  { dst := some 31, op := Go.Op.indexAddr 26 (Go.Operand.tmp 29) (Go.Operand.tmp 30), type := 0, pos := "scores.go:213", after := #[{ on := 2, ground := Go.Ground.data }, { on := 3, ground := Go.Ground.data }], guard := none },
  { dst := some 32, op := Go.Op.fieldAddr 78 (Go.Operand.tmp 31) 0, type := 0, pos := "scores.go:213", after := #[{ on := 4, ground := Go.Ground.data }], guard := none },
  { dst := some 33, op := Go.Op.load 9 (Go.Operand.tmp 32), type := 9, pos := "scores.go:213", after := #[{ on := 5, ground := Go.Ground.data }], guard := none },
  { dst := some 34, op := Go.Op.binOp Go.BinOp.neq 9 (Go.Operand.tmp 28) (Go.Operand.tmp 33) 9, type := 4, pos := "scores.go:213", after := #[{ on := 1, ground := Go.Ground.data }, { on := 6, ground := Go.Ground.data }], guard := none },
  { dst := some 26, op := Go.Op.assign (Go.Operand.tmp 34), type := 4, pos := "scores.go:213", after := #[{ on := 7, ground := Go.Ground.data }], guard := none }]
theorem ops_16_7_0 : ops_16_7[0]? = some ({ dst := some 27, op := Go.Op.fieldAddr 49 (Go.Operand.tmp 8) 0, type := 0, pos := "scores.go:213", after := #[], guard := none } : Go.Oper) := rfl
theorem ops_16_7_1 : ops_16_7[1]? = some ({ dst := some 28, op := Go.Op.load 9 (Go.Operand.tmp 27), type := 9, pos := "scores.go:213", after := #[{ on := 0, ground := Go.Ground.data }], guard := none } : Go.Oper) := rfl
theorem ops_16_7_2 : ops_16_7[2]? = some ({ dst := some 29, op := Go.Op.move (Go.Operand.tmp 0), type := 26, pos := "scores.go:213", after := #[], guard := none } : Go.Oper) := rfl
theorem ops_16_7_3 : ops_16_7[3]? = some ({ dst := some 30, op := Go.Op.move (Go.Operand.tmp 7), type := 3, pos := "scores.go:213", after := #[], guard := none } : Go.Oper) := rfl
theorem ops_16_7_4 : ops_16_7[4]? = some ({ dst := some 31, op := Go.Op.indexAddr 26 (Go.Operand.tmp 29) (Go.Operand.tmp 30), type := 0, pos := "scores.go:213", after := #[{ on := 2, ground := Go.Ground.data }, { on := 3, ground := Go.Ground.data }], guard := none } : Go.Oper) := rfl
theorem ops_16_7_5 : ops_16_7[5]? = some ({ dst := some 32, op := Go.Op.fieldAddr 78 (Go.Operand.tmp 31) 0, type := 0, pos := "scores.go:213", after := #[{ on := 4, ground := Go.Ground.data }], guard := none } : Go.Oper) := rfl
theorem ops_16_7_6 : ops_16_7[6]? = some ({ dst := some 33, op := Go.Op.load 9 (Go.Operand.tmp 32), type := 9, pos := "scores.go:213", after := #[{ on := 5, ground := Go.Ground.data }], guard := none } : Go.Oper) := rfl
theorem ops_16_7_7 : ops_16_7[7]? = some ({ dst := some 34, op := Go.Op.binOp Go.BinOp.neq 9 (Go.Operand.tmp 28) (Go.Operand.tmp 33) 9, type := 4, pos := "scores.go:213", after := #[{ on := 1, ground := Go.Ground.data }, { on := 6, ground := Go.Ground.data }], guard := none } : Go.Oper) := rfl
theorem ops_16_7_8 : ops_16_7[8]? = some ({ dst := some 26, op := Go.Op.assign (Go.Operand.tmp 34), type := 4, pos := "scores.go:213", after := #[{ on := 7, ground := Go.Ground.data }], guard := none } : Go.Oper) := rfl
theorem ops_16_7_ns : Go.Region.noSelect ops_16_7 = true := by kernel_rfl
def ops_16_14 : Array Go.Oper := #[
  { dst := some 49, op := Go.Op.move (Go.Operand.tmp 0), type := 26, pos := "scores.go:220", after := #[], guard := none },
  { dst := some 50, op := Go.Op.move (Go.Operand.tmp 7), type := 3, pos := "scores.go:220", after := #[], guard := none },
  { dst := some 51, op := Go.Op.indexAddr 26 (Go.Operand.tmp 49) (Go.Operand.tmp 50), type := 0, pos := "scores.go:220", after := #[{ on := 0, ground := Go.Ground.data }, { on := 1, ground := Go.Ground.data }], guard := none },
  { dst := some 52, op := Go.Op.load 78 (Go.Operand.tmp 51), type := 78, pos := "scores.go:220", after := #[{ on := 2, ground := Go.Ground.data }], guard := none },
  { dst := some 53, op := Go.Op.move (Go.Operand.tmp 1), type := 28, pos := "scores.go:220", after := #[], guard := none },
  { dst := some 54, op := Go.Op.move (Go.Operand.tmp 9), type := 3, pos := "scores.go:220", after := #[], guard := none },
  { dst := some 55, op := Go.Op.indexAddr 28 (Go.Operand.tmp 53) (Go.Operand.tmp 54), type := 0, pos := "scores.go:220", after := #[{ on := 4, ground := Go.Ground.data }, { on := 5, ground := Go.Ground.data }], guard := none },
  { dst := some 56, op := Go.Op.load 83 (Go.Operand.tmp 55), type := 83, pos := "scores.go:220", after := #[{ on := 6, ground := Go.Ground.data }], guard := none },
  { dst := some 57, op := Go.Op.call { callee := Go.Callee.value (Go.Operand.func 68), args := #[Go.Operand.tmp 52, Go.Operand.tmp 56], argTypes := #[78, 83] }, type := 4, pos := "scores.go:220", after := #[{ on := 3, ground := Go.Ground.data }, { on := 7, ground := Go.Ground.data }], guard := none },
  { dst := some 58, op := Go.Op.unOp Go.UnOp.not 4 (Go.Operand.tmp 57), type := 4, pos := "scores.go:220", after := #[{ on := 8, ground := Go.Ground.data }], guard := none },
  { dst := some 48, op := Go.Op.assign (Go.Operand.tmp 58), type := 4, pos := "scores.go:220", after := #[{ on := 9, ground := Go.Ground.data }, { on := 8, ground := Go.Ground.chain }], guard := none }]
theorem ops_16_14_0 : ops_16_14[0]? = some ({ dst := some 49, op := Go.Op.move (Go.Operand.tmp 0), type := 26, pos := "scores.go:220", after := #[], guard := none } : Go.Oper) := rfl
theorem ops_16_14_1 : ops_16_14[1]? = some ({ dst := some 50, op := Go.Op.move (Go.Operand.tmp 7), type := 3, pos := "scores.go:220", after := #[], guard := none } : Go.Oper) := rfl
theorem ops_16_14_2 : ops_16_14[2]? = some ({ dst := some 51, op := Go.Op.indexAddr 26 (Go.Operand.tmp 49) (Go.Operand.tmp 50), type := 0, pos := "scores.go:220", after := #[{ on := 0, ground := Go.Ground.data }, { on := 1, ground := Go.Ground.data }], guard := none } : Go.Oper) := rfl
theorem ops_16_14_3 : ops_16_14[3]? = some ({ dst := some 52, op := Go.Op.load 78 (Go.Operand.tmp 51), type := 78, pos := "scores.go:220", after := #[{ on := 2, ground := Go.Ground.data }], guard := none } : Go.Oper) := rfl
theorem ops_16_14_4 : ops_16_14[4]? = some ({ dst := some 53, op := Go.Op.move (Go.Operand.tmp 1), type := 28, pos := "scores.go:220", after := #[], guard := none } : Go.Oper) := rfl
theorem ops_16_14_5 : ops_16_14[5]? = some ({ dst := some 54, op := Go.Op.move (Go.Operand.tmp 9), type := 3, pos := "scores.go:220", after := #[], guard := none } : Go.Oper) := rfl
theorem ops_16_14_6 : ops_16_14[6]? = some ({ dst := some 55, op := Go.Op.indexAddr 28 (Go.Operand.tmp 53) (Go.Operand.tmp 54), type := 0, pos := "scores.go:220", after := #[{ on := 4, ground := Go.Ground.data }, { on := 5, ground := Go.Ground.data }], guard := none } : Go.Oper) := rfl
theorem ops_16_14_7 : ops_16_14[7]? = some ({ dst := some 56, op := Go.Op.load 83 (Go.Operand.tmp 55), type := 83, pos := "scores.go:220", after := #[{ on := 6, ground := Go.Ground.data }], guard := none } : Go.Oper) := rfl
theorem ops_16_14_8 : ops_16_14[8]? = some ({ dst := some 57, op := Go.Op.call { callee := Go.Callee.value (Go.Operand.func 68), args := #[Go.Operand.tmp 52, Go.Operand.tmp 56], argTypes := #[78, 83] }, type := 4, pos := "scores.go:220", after := #[{ on := 3, ground := Go.Ground.data }, { on := 7, ground := Go.Ground.data }], guard := none } : Go.Oper) := rfl
theorem ops_16_14_9 : ops_16_14[9]? = some ({ dst := some 58, op := Go.Op.unOp Go.UnOp.not 4 (Go.Operand.tmp 57), type := 4, pos := "scores.go:220", after := #[{ on := 8, ground := Go.Ground.data }], guard := none } : Go.Oper) := rfl
theorem ops_16_14_10 : ops_16_14[10]? = some ({ dst := some 48, op := Go.Op.assign (Go.Operand.tmp 58), type := 4, pos := "scores.go:220", after := #[{ on := 9, ground := Go.Ground.data }, { on := 8, ground := Go.Ground.chain }], guard := none } : Go.Oper) := rfl
theorem ops_16_14_ns : Go.Region.noSelect ops_16_14 = true := by kernel_rfl
/-- Where a scorer is, and who it is. -/
def AtV (cs : List ScD) (k : ByteArray) (v : Int) : Prop := (v = -1 ∧ knownB (cs.map ScD.who) k = false) ∨ ∃ q : Nat, v = (q : Int) ∧ cs[q]? = some (fndC cs k) ∧ knownB (cs.map ScD.who) k = true
theorem at_of {cs : List ScD} {k : ByteArray} {w w' : World} {e : Ending} (hs : SortedK (cs.map ScD.who)) (h : IdxFirstC (fun c => beqS c.who k) cs w e w') : ∃ v : Int, e = .returned (.int .i64 v) ∧ AtV cs k v := by
  rcases h.1 with ⟨rfl, h0⟩ | ⟨i, c, rfl, hc, hk, _⟩
  · exact ⟨_, rfl, .inl ⟨rfl, (fnd_none hs h0).1⟩⟩
  · obtain ⟨h1, _, h3⟩ := fnd_at hs hc (beqS_iff.1 hk)
    exact ⟨_, rfl, .inr ⟨i, rfl, by rw [h3]; exact hc, h1⟩⟩
set_option maxRecDepth 100000 in
set_option maxHeartbeats 16000000 in
theorem fillsFault_calls (lo lo' lo3 : Nat) (v u z : Value) (ss : List SlD) (cs : List ScD) (fs : List FiD) (w : World) (hS : Sls w lo' v ss) (hC : Scs w lo u cs) (hsort : SortedK (cs.map ScD.who)) (hcn : cs.length ≤ 1000000) (hF : Fis w lo3 z fs) (hfn : fs.length ≤ 1000000) :
    Calls Tryz.prog 16 #[v, u, z] w (IntBelow (fiE ss cs fs) w) := by
  have HS := Lib.hid hS
  have HC := Lib.hid hC
  have HF := Lib.hid hF
  have Hsort := Lib.hid hsort
  obtain ⟨sa, sc, rfl⟩ := NRows.shape hS
  obtain ⟨ca, cc, rfl⟩ := NRows.shape hC
  obtain ⟨fa, fc, rfl⟩ := fis_shape hF
  clear hS hC hF hsort
  by_cases hl : fs.length = ss.length
  · have HE := Lib.hid (show fiE ss cs fs = eachE fs.length fs.length (chF ss cs fs) by unfold fiE; rw [if_pos hl])
    have Hl := Lib.hid hl
    rw [HE.out, ← hl]
    clear hl
    have Hm := Lib.hid (show (fs.length : Int) ≤ fs.length by omega)
    go_enter Tryz.func16, Tryz.ntmps16
    go_wp2_with fail
    go_loopw [17] (fun i wr => ∃ k : Nat, k ≤ fs.length ∧ i = .int .i64 k ∧ Hid (∀ i, i < k → chF ss cs fs i = 0) ∧ Below w.heap.size w wr) (fun i _ => fs.length - (intOf i).toNat)
    case atStart => exact ⟨0, Nat.zero_le _, rfl, Lib.hid (fun i hi => by omega), Below.refl _ _⟩
    case round =>
      obtain ⟨k, hk, rfl, H0, hb⟩ := hrel
      by_cases hlt : k < fs.length
      · obtain ⟨f, hf⟩ : ∃ f, fs[k]? = some f := ⟨_, List.getElem?_eq_getElem hlt⟩
        obtain ⟨s, hs⟩ : ∃ s, ss[k]? = some s := ⟨_, List.getElem?_eq_getElem (by have := Hl.out; omega)⟩
        have Hhit := Lib.hid (fun (h : chF ss cs fs k ≠ 0) => (show eachE fs.length fs.length (chF ss cs fs) = chF ss cs fs k from eachE_hit Hm.out hlt H0.out h))
        have Hnext := Lib.hid (fun (h : chF ss cs fs k = 0) i (hi : i < k + 1) => (show chF ss cs fs i = 0 by
          rcases Nat.lt_succ_iff_lt_or_eq.1 hi with h' | rfl
          · exact H0.out i h'
          · exact h))
        have Hslot := Lib.hid (ch_slot (cs := cs) hf hs)
        have Hempty := Lib.hid (ch_empty (cs := cs) hf hs)
        have Hrest := Lib.hid (ch_rest (cs := cs) hf hs)
        rcases fis_at HF.out with ⟨_, h⟩ | ⟨g, off, cap, e, _, hg, _, hcell⟩
        · rw [h] at hlt; simp at hlt
        simp only [Value.slice.injEq] at e
        obtain ⟨rfl, -, rfl⟩ := e
        obtain ⟨q0, q1⟩ := hcell k f hf
        have q0 := below_cell hb q0
        have q1 := below_cell hb q1
        rcases sls_at HS.out with ⟨_, h⟩ | ⟨g', off', cap', e, _, hg', _, hcell'⟩
        · rw [h] at hs; simp at hs
        simp only [Value.slice.injEq] at e
        obtain ⟨rfl, -, rfl⟩ := e
        obtain ⟨pv, s0, s1, hpv⟩ := hcell' k s hs
        have Hpv := Lib.hid hpv
        obtain ⟨pa, pc, rfl⟩ := strs_shape hpv
        have s0 := below_cell hb s0
        have s1 := below_cell hb s1
        have hfit : fs.length ≤ fc := by have := Rows.fits HF.out; simpa using this
        have hic : k ≤ fc := by omega
        have hil : k ≤ fs.length := by omega
        have hlt' : (k : Int) < (fs.length : Int) := by omega
        clear hcell hcell' hf hs hpv
        go_upto_region 6 with fail
        obtain ⟨W, hW⟩ : ∃ W, W = wr.alloc (.cells #[.string f.slot, .string f.who] 49) := ⟨_, rfl⟩
        have hbW : Below w.heap.size w W := by rw [hW]; exact below_step hb (below_alloc wr _)
        have hx : W.heap[wr.heap.size]? = some (.cells #[.string f.slot, .string f.who] 49 (0, 0)) := by rw [hW]; exact heap_alloc_new wr _
        have hbrW : Below wr.heap.size wr W := by rw [hW]; exact below_alloc wr _
        rw [← hW]
        have x0 := cell_at hx 0 rfl
        have x1 := cell_at hx 1 rfl
        have s0 := below_cell hbrW s0
        have s1 := below_cell hbrW s1
        have HS7 := Lib.hid (show ∀ w', Below W.heap.size W w' → (Below W.heap.size W w' ∧ w'.cell? ⟨wr.heap.size, 0, none⟩ = some (.string f.slot) ∧ w'.cell? ⟨wr.heap.size, 1, none⟩ = some (.string f.who) ∧ w'.cell? ⟨g', off' + k * 2, none⟩ = some (.string s.key) ∧ w'.cell? ⟨g', off' + k * 2 + 1, none⟩ = some (.slice pa s.pos.length pc)) from fun w' hb => ⟨hb, below_cell hb x0, below_cell hb x1, below_cell hb s0, below_cell hb s1⟩)
        have e1 : (!(f.slot.toList == s.key.toList)) = !beqS f.slot s.key := rfl
        generalize hX : wr.heap.size = X at HS7 hx x0 x1 ⊢
        clear hW hbrW hX q0 q1 hx hb s0 s1 x0
        go_wp2_with fail
        refine (scorerAt_calls lo _ cs f.who W (NRows.below HC.out hbW)).mono ?_
        rintro e w1 hat
        have hb1 := hat.2
        obtain ⟨kv, rfl, hkv⟩ := at_of Hsort.out hat
        have Hkv := Lib.hid hkv
        have Hk := Lib.hid (show kv < 0 ∨ 0 ≤ kv by omega)
        clear hat hkv x1
        go_upto_region 7 with fail
        have hb0 := hb1.drew
        show Code.wp _ (Code.region 7 ops_16_7 true) _ _ _
        refine region_start 9 (fun w' => Below W.heap.size W w' ∧ w'.cell? ⟨X, 0, none⟩ = some (.string f.slot) ∧ w'.cell? ⟨X, 1, none⟩ = some (.string f.who) ∧ w'.cell? ⟨g', off' + k * 2, none⟩ = some (.string s.key) ∧ w'.cell? ⟨g', off' + k * 2 + 1, none⟩ = some (.slice pa s.pos.length pc)) (by kernel_rfl) rfl ?_ (fun hHeld => ?_)
        · (exact HS7.out _ (by first | assumption | exact hHeld.1 | exact below_step hHeld.1 (by assumption) | exact below_step hHeld.1 (below_alloc _ _)))
        refine take_to 0 27 #[true, false, false, false, false, false, false, false, false] (v := ?_) ops_16_7_0 rfl ops_16_7_ns (by kernel_rfl) (by kernel_rfl) (fun _ _ _ h => h) (by rfl) ?y07 (by assumption) ?_
        case y07 =>
          intro w hSw
          try dsimp only at hSw
          go_simp
          try with_reducible rfl
        simp only [List.set_cons_zero, List.set_cons_succ]
        refine take_to 1 28 #[true, true, false, false, false, false, false, false, false] (v := ?_) ops_16_7_1 rfl ops_16_7_ns (by kernel_rfl) (by kernel_rfl) (fun _ _ _ h => h) (by rfl) ?y17 (by assumption) ?_
        case y17 =>
          intro w hSw
          try dsimp only at hSw
          go_simp
          try with_reducible rfl
        simp only [List.set_cons_zero, List.set_cons_succ]
        refine take_to 2 29 #[true, true, true, false, false, false, false, false, false] (v := ?_) ops_16_7_2 rfl ops_16_7_ns (by kernel_rfl) (by kernel_rfl) (fun _ _ _ h => h) (by rfl) ?y27 (by assumption) ?_
        case y27 =>
          intro w hSw
          try dsimp only at hSw
          go_simp
          try with_reducible rfl
        simp only [List.set_cons_zero, List.set_cons_succ]
        refine take_to 3 30 #[true, true, true, true, false, false, false, false, false] (v := ?_) ops_16_7_3 rfl ops_16_7_ns (by kernel_rfl) (by kernel_rfl) (fun _ _ _ h => h) (by rfl) ?y37 (by assumption) ?_
        case y37 =>
          intro w hSw
          try dsimp only at hSw
          go_simp
          try with_reducible rfl
        simp only [List.set_cons_zero, List.set_cons_succ]
        refine take_to 4 31 #[true, true, true, true, true, false, false, false, false] (v := ?_) ops_16_7_4 rfl ops_16_7_ns (by kernel_rfl) (by kernel_rfl) (fun _ _ _ h => h) (by rfl) ?y47 (by assumption) ?_
        case y47 =>
          intro w hSw
          try dsimp only at hSw
          go_simp
          try with_reducible rfl
        simp only [List.set_cons_zero, List.set_cons_succ]
        refine take_to 5 32 #[true, true, true, true, true, true, false, false, false] (v := ?_) ops_16_7_5 rfl ops_16_7_ns (by kernel_rfl) (by kernel_rfl) (fun _ _ _ h => h) (by rfl) ?y57 (by assumption) ?_
        case y57 =>
          intro w hSw
          try dsimp only at hSw
          go_simp
          try with_reducible rfl
        simp only [List.set_cons_zero, List.set_cons_succ]
        refine take_to 6 33 #[true, true, true, true, true, true, true, false, false] (v := ?_) ops_16_7_6 rfl ops_16_7_ns (by kernel_rfl) (by kernel_rfl) (fun _ _ _ h => h) (by rfl) ?y67 (by assumption) ?_
        case y67 =>
          intro w hSw
          try dsimp only at hSw
          go_simp
          try with_reducible rfl
        simp only [List.set_cons_zero, List.set_cons_succ]
        refine take_to 7 34 #[true, true, true, true, true, true, true, true, false] (v := ?_) ops_16_7_7 rfl ops_16_7_ns (by kernel_rfl) (by kernel_rfl) (fun _ _ _ h => h) (by rfl) ?y77 (by assumption) ?_
        case y77 =>
          intro w hSw
          try dsimp only at hSw
          go_simp
          try with_reducible rfl
        simp only [List.set_cons_zero, List.set_cons_succ]
        refine take_to 8 26 #[true, true, true, true, true, true, true, true, true] (v := ?_) ops_16_7_8 rfl ops_16_7_ns (by kernel_rfl) (by kernel_rfl) (fun _ _ _ h => h) (by rfl) ?y87 (by assumption) ?_
        case y87 =>
          intro w hSw
          try dsimp only at hSw
          go_simp
          try with_reducible rfl
        simp only [List.set_cons_zero, List.set_cons_succ]
        refine wpAnyH_done (by kernel_rfl) ?_ _
        have hb7 := hHeld.1
        obtain ⟨-, d0, d1, d2, d3⟩ := hHeld
        cases hq : beqS f.slot s.key
        · rw [hq] at e1
          have Hv := Lib.hid (Hslot.out hq)
          clear hq d0 d1 d2 d3
          go_wp2_with fail
          go_ret
          exact ⟨ret_int (by rw [Hhit.out (by rw [Hv.out]; decide), Hv.out]), below_step hbW hb7⟩
        · rw [hq] at e1
          by_cases hz : f.who.size = 0
          · have e2 : f.who.toList.isEmpty = true := by rw [empty_of]; exact decide_eq_true hz
            have Hv := Lib.hid (Hempty.out hq hz)
            clear hq hz d0 d2 d3
            go_wp2_with fail
            go_roundw
            case rel => exact ⟨k + 1, by omega, by go_num, Lib.hid (Hnext.out Hv.out), below_step hbW hb7⟩
            case measure => simp [intOf]; omega
          · have e2 : f.who.toList.isEmpty = false := by rw [empty_of]; exact decide_eq_false hz
            have Hv := Lib.hid (Hrest.out hq hz)
            clear hq hz
            rcases Hkv.out with ⟨rfl, hkn⟩ | ⟨q, rfl, hcq, hkn⟩
            · rw [hkn] at Hv
              clear hkn d0 d2 d3
              go_wp2_with fail
              go_ret
              exact ⟨ret_int (by rw [Hhit.out (by rw [Hv.out]; simp [firstE, unlessE]), Hv.out]; simp [firstE, unlessE]), below_step hbW hb7⟩
            · rw [hkn] at Hv
              have Hcq := Lib.hid hcq
              have hqn : q < cs.length := (List.getElem?_eq_some_iff.1 hcq).1
              have hqn' : (q : Int) < (cs.length : Int) := by omega
              have CF := Lib.hid (containsFi_calls 67 #[.pointer (some ⟨X, 0, none⟩)] (fun o => beqS o.who f.who) lo3 _ (fs.take k) _ ((fis_take HF.out rfl (by omega : k ≤ fs.length)).below (below_step hbW hb7)) (by intro args w; go_simp) (fun V o hb => fillsFault1_calls o f.who X V (below_cell hb d1)))
              rw [show (fs.take k).any (fun o => beqS o.who f.who) = inF (fs.take k) f.who from rfl] at CF
              generalize inF (fs.take k) f.who = fb at CF Hv
              clear hkn hcq d0 d2 d3
              go_wp2_with fail
              refine CF.out.mono ?_
              rintro e w8 ⟨rfl, hb8⟩
              clear CF
              cases fb
              · rcases scs_at HC.out with ⟨_, h⟩ | ⟨cg, coff, ccap, e, _, hcg, _, hcell⟩
                · have := Hcq.out; rw [h] at this; simp at this
                simp only [Value.slice.injEq] at e
                obtain ⟨rfl, -, rfl⟩ := e
                generalize fndC cs f.who = Fc at Hv Hcq
                obtain ⟨cv, r0, r1, r2, r3, r4, hcv⟩ := hcell q Fc Hcq.out
                have Hcv := Lib.hid hcv
                obtain ⟨xa, xc, rfl⟩ := strs_shape hcv
                have hb78 := below_step hb7 hb8
                have hbw8 := below_step hbW hb78
                have HR := Lib.hid (show ∀ w', Below w8.heap.size w8 w' → (Below w8.heap.size w8 w' ∧ w'.cell? ⟨g', off' + k * 2, none⟩ = some (.string s.key) ∧ w'.cell? ⟨g', off' + k * 2 + 1, none⟩ = some (.slice pa s.pos.length pc) ∧ w'.cell? ⟨cg, coff + q * 5, none⟩ = some (.string Fc.who) ∧ w'.cell? ⟨cg, coff + q * 5 + 1, none⟩ = some (.slice xa Fc.pos.length xc) ∧ w'.cell? ⟨cg, coff + q * 5 + 2, none⟩ = some (.int .i64 Fc.num) ∧ w'.cell? ⟨cg, coff + q * 5 + 3, none⟩ = some (.int .i64 Fc.den) ∧ w'.cell? ⟨cg, coff + q * 5 + 4, none⟩ = some (.bool Fc.played)) from fun w' hb => ⟨hb, (HS7.out _ (below_step hb78 hb)).2.2.2.1, (HS7.out _ (below_step hb78 hb)).2.2.2.2, below_cell hb (below_cell hbw8 r0), below_cell hb (below_cell hbw8 r1), below_cell hb (below_cell hbw8 r2), below_cell hb (below_cell hbw8 r3), below_cell hb (below_cell hbw8 r4)⟩)
                have hb0 := (Below.refl w8.heap.size w8).drew
                clear r0 r1 r2 r3 r4 hcv hcell
                go_upto_region 14 with fail
                show Code.wp _ (Code.region 14 ops_16_14 true) _ _ _
                refine region_start 11 (fun w' => Below w8.heap.size w8 w' ∧ w'.cell? ⟨g', off' + k * 2, none⟩ = some (.string s.key) ∧ w'.cell? ⟨g', off' + k * 2 + 1, none⟩ = some (.slice pa s.pos.length pc) ∧ w'.cell? ⟨cg, coff + q * 5, none⟩ = some (.string Fc.who) ∧ w'.cell? ⟨cg, coff + q * 5 + 1, none⟩ = some (.slice xa Fc.pos.length xc) ∧ w'.cell? ⟨cg, coff + q * 5 + 2, none⟩ = some (.int .i64 Fc.num) ∧ w'.cell? ⟨cg, coff + q * 5 + 3, none⟩ = some (.int .i64 Fc.den) ∧ w'.cell? ⟨cg, coff + q * 5 + 4, none⟩ = some (.bool Fc.played)) (by kernel_rfl) rfl ?_ (fun hHeld => ?_)
                · (exact HR.out _ (by first | assumption | exact hHeld.1 | exact below_step hHeld.1 (by assumption) | exact below_step hHeld.1 (below_alloc _ _)))
                refine take_to 0 49 #[true, false, false, false, false, false, false, false, false, false, false] (v := ?_) ops_16_14_0 rfl ops_16_14_ns (by kernel_rfl) (by kernel_rfl) (fun _ _ _ h => h) (by rfl) ?y0e (by assumption) ?_
                case y0e =>
                  intro w hSw
                  try dsimp only at hSw
                  go_simp
                  try with_reducible rfl
                simp only [List.set_cons_zero, List.set_cons_succ]
                refine take_to 1 50 #[true, true, false, false, false, false, false, false, false, false, false] (v := ?_) ops_16_14_1 rfl ops_16_14_ns (by kernel_rfl) (by kernel_rfl) (fun _ _ _ h => h) (by rfl) ?y1e (by assumption) ?_
                case y1e =>
                  intro w hSw
                  try dsimp only at hSw
                  go_simp
                  try with_reducible rfl
                simp only [List.set_cons_zero, List.set_cons_succ]
                refine take_to 2 51 #[true, true, true, false, false, false, false, false, false, false, false] (v := ?_) ops_16_14_2 rfl ops_16_14_ns (by kernel_rfl) (by kernel_rfl) (fun _ _ _ h => h) (by rfl) ?y2e (by assumption) ?_
                case y2e =>
                  intro w hSw
                  try dsimp only at hSw
                  go_simp
                  try with_reducible rfl
                simp only [List.set_cons_zero, List.set_cons_succ]
                refine take_to 3 52 #[true, true, true, true, false, false, false, false, false, false, false] (v := ?_) ops_16_14_3 rfl ops_16_14_ns (by kernel_rfl) (by kernel_rfl) (fun _ _ _ h => h) (by rfl) ?y3e (by assumption) ?_
                case y3e =>
                  intro w hSw
                  try dsimp only at hSw
                  go_simp
                  try with_reducible rfl
                simp only [List.set_cons_zero, List.set_cons_succ]
                refine take_to 4 53 #[true, true, true, true, true, false, false, false, false, false, false] (v := ?_) ops_16_14_4 rfl ops_16_14_ns (by kernel_rfl) (by kernel_rfl) (fun _ _ _ h => h) (by rfl) ?y4e (by assumption) ?_
                case y4e =>
                  intro w hSw
                  try dsimp only at hSw
                  go_simp
                  try with_reducible rfl
                simp only [List.set_cons_zero, List.set_cons_succ]
                refine take_to 5 54 #[true, true, true, true, true, true, false, false, false, false, false] (v := ?_) ops_16_14_5 rfl ops_16_14_ns (by kernel_rfl) (by kernel_rfl) (fun _ _ _ h => h) (by rfl) ?y5e (by assumption) ?_
                case y5e =>
                  intro w hSw
                  try dsimp only at hSw
                  go_simp
                  try with_reducible rfl
                simp only [List.set_cons_zero, List.set_cons_succ]
                refine take_to 6 55 #[true, true, true, true, true, true, true, false, false, false, false] (v := ?_) ops_16_14_6 rfl ops_16_14_ns (by kernel_rfl) (by kernel_rfl) (fun _ _ _ h => h) (by rfl) ?y6e (by assumption) ?_
                case y6e =>
                  intro w hSw
                  try dsimp only at hSw
                  go_simp
                  try with_reducible rfl
                simp only [List.set_cons_zero, List.set_cons_succ]
                refine take_to 7 56 #[true, true, true, true, true, true, true, true, false, false, false] (v := ?_) ops_16_14_7 rfl ops_16_14_ns (by kernel_rfl) (by kernel_rfl) (fun _ _ _ h => h) (by rfl) ?y7e (by assumption) ?_
                case y7e =>
                  intro w hSw
                  try dsimp only at hSw
                  go_simp
                  try with_reducible rfl
                simp only [List.set_cons_zero, List.set_cons_succ]
                refine run_to 8 #[true, true, true, true, true, true, true, true, true, false, false] ops_16_14_8 (by kernel_rfl) (by kernel_rfl) (by rfl) (fun K hK => ?_)
                go_simp
                refine (fit_calls _ _ (.slice xa Fc.pos.length xc) (.slice pa s.pos.length pc) Fc s _ (Hcv.out.below (hbw8.trans (hHeld.1.mono hbw8.size))) (Hpv.out.below (hbw8.trans (hHeld.1.mono hbw8.size)))).mono ?_
                rintro e w' ⟨rfl, hb⟩
                go_wp2_with fail
                refine hK.out _ _ ?_ (fun hHeld => ?_)
                · (exact HR.out _ (by first | assumption | exact hHeld.1 | exact below_step hHeld.1 (by assumption) | exact below_step hHeld.1 (below_alloc _ _)))
                clear hK K
                try simp only [Act.put, List.setIfInBounds_toArray, List.set_cons_zero, List.set_cons_succ]
                refine take_to 9 58 #[true, true, true, true, true, true, true, true, true, true, false] (v := ?_) ops_16_14_9 rfl ops_16_14_ns (by kernel_rfl) (by kernel_rfl) (fun _ _ _ h => h) (by rfl) ?y9e (by assumption) ?_
                case y9e =>
                  intro w hSw
                  try dsimp only at hSw
                  go_simp
                  try with_reducible rfl
                simp only [List.set_cons_zero, List.set_cons_succ]
                refine take_to 10 48 #[true, true, true, true, true, true, true, true, true, true, true] (v := ?_) ops_16_14_10 rfl ops_16_14_ns (by kernel_rfl) (by kernel_rfl) (fun _ _ _ h => h) (by rfl) ?y10e (by assumption) ?_
                case y10e =>
                  intro w hSw
                  try dsimp only at hSw
                  go_simp
                  try with_reducible rfl
                simp only [List.set_cons_zero, List.set_cons_succ]
                refine wpAnyH_done (by kernel_rfl) ?_ _
                have hb9 := hHeld.1
                clear hHeld
                rw [← suit_fit]
                cases hsu : suitB Fc s
                · rw [hsu] at Hv
                  clear hsu
                  go_wp2_with fail
                  go_ret
                  exact ⟨ret_int (by rw [Hhit.out (by rw [Hv.out]; simp [firstE, unlessE]), Hv.out]; simp [firstE, unlessE]), below_step hbw8 hb9⟩
                · rw [hsu] at Hv
                  clear hsu
                  go_wp2_with fail
                  go_roundw
                  case rel => exact ⟨k + 1, by omega, by go_num, Lib.hid (Hnext.out (by rw [Hv.out]; simp [firstE, unlessE])), below_step hbw8 hb9⟩
                  case measure => simp [intOf]; omega
              · clear d1
                go_wp2_with fail
                go_ret
                exact ⟨ret_int (by rw [Hhit.out (by rw [Hv.out]; simp [firstE, unlessE]), Hv.out]; simp [firstE, unlessE]), below_step (below_step hbW hb7) hb8⟩
      · obtain rfl : k = fs.length := by omega
        have Hnone := Lib.hid (show eachE fs.length fs.length (chF ss cs fs) = 0 from eachE_none Hm.out H0.out)
        go_wp2_with fail
        go_ret
        exact ⟨ret_int Hnone.out.symm, hb⟩
  · have HE := Lib.hid (show fiE ss cs fs = 3 by unfold fiE; rw [if_neg hl])
    have hne : ((fs.length : Int) != (ss.length : Int)) = true := by simp; omega
    rw [HE.out]
    clear hl
    go_enter Tryz.func16, Tryz.ntmps16
    go_wp2_with fail
    go_ret
    exact ⟨rfl, Below.refl _ _⟩
end Go.Proofs.YthlfjfmlmcoihaaGreat
namespace Go.Proofs.YthlfjfmlmcoihaaGreat
open Go.RowKit

theorem benchFault1_calls (f : FiD) (k : ByteArray) (X : Nat) (w : World) (hX : w.cell? ⟨X, 0, none⟩ = some (.string k)) :
    Calls Tryz.prog 96 #[.agg #[.string f.slot, .string f.who], .pointer (some ⟨X, 0, none⟩)] w (BoolIs (beqS f.who k) w) := by
  go_enter Tryz.func96, Tryz.ntmps96
  have hX1 := below_cell (below_alloc w (.cells #[.string f.slot, .string f.who] 49)) hX
  go_wp2_with fail
  go_ret
  exact ⟨ret_bool (by unfold beqS; rfl), below_alloc w _⟩
def ops_42_8 : Array Go.Oper := #[
  { dst := some 25, op := Go.Op.move (Go.Operand.tmp 2), type := 39, pos := "scores.go:314", after := #[], guard := none },
  { dst := some 26, op := Go.Op.move (Go.Operand.tmp 7), type := 3, pos := "scores.go:314", after := #[], guard := none },
  { dst := some 27, op := Go.Op.slice 39 (Go.Operand.tmp 25) none (some (Go.Operand.tmp 26)) none, type := 39, pos := "scores.go:314", after := #[{ on := 0, ground := Go.Ground.data }, { on := 1, ground := Go.Ground.data }], guard := none },
  { dst := some 28, op := Go.Op.load 9 (Go.Operand.tmp 8), type := 9, pos := "scores.go:314", after := #[], guard := none },
  { dst := some 29, op := Go.Op.call { callee := Go.Callee.value (Go.Operand.func 52), args := #[Go.Operand.tmp 27, Go.Operand.tmp 28], argTypes := #[39, 9] }, type := 4, pos := "scores.go:314", after := #[{ on := 2, ground := Go.Ground.data }, { on := 3, ground := Go.Ground.data }], guard := none },
  { dst := some 24, op := Go.Op.assign (Go.Operand.tmp 29), type := 4, pos := "scores.go:314", after := #[{ on := 4, ground := Go.Ground.data }, { on := 4, ground := Go.Ground.chain }], guard := none }]
theorem ops_42_8_0 : ops_42_8[0]? = some ({ dst := some 25, op := Go.Op.move (Go.Operand.tmp 2), type := 39, pos := "scores.go:314", after := #[], guard := none } : Go.Oper) := rfl
theorem ops_42_8_1 : ops_42_8[1]? = some ({ dst := some 26, op := Go.Op.move (Go.Operand.tmp 7), type := 3, pos := "scores.go:314", after := #[], guard := none } : Go.Oper) := rfl
theorem ops_42_8_2 : ops_42_8[2]? = some ({ dst := some 27, op := Go.Op.slice 39 (Go.Operand.tmp 25) none (some (Go.Operand.tmp 26)) none, type := 39, pos := "scores.go:314", after := #[{ on := 0, ground := Go.Ground.data }, { on := 1, ground := Go.Ground.data }], guard := none } : Go.Oper) := rfl
theorem ops_42_8_3 : ops_42_8[3]? = some ({ dst := some 28, op := Go.Op.load 9 (Go.Operand.tmp 8), type := 9, pos := "scores.go:314", after := #[], guard := none } : Go.Oper) := rfl
theorem ops_42_8_4 : ops_42_8[4]? = some ({ dst := some 29, op := Go.Op.call { callee := Go.Callee.value (Go.Operand.func 52), args := #[Go.Operand.tmp 27, Go.Operand.tmp 28], argTypes := #[39, 9] }, type := 4, pos := "scores.go:314", after := #[{ on := 2, ground := Go.Ground.data }, { on := 3, ground := Go.Ground.data }], guard := none } : Go.Oper) := rfl
theorem ops_42_8_5 : ops_42_8[5]? = some ({ dst := some 24, op := Go.Op.assign (Go.Operand.tmp 29), type := 4, pos := "scores.go:314", after := #[{ on := 4, ground := Go.Ground.data }, { on := 4, ground := Go.Ground.chain }], guard := none } : Go.Oper) := rfl
theorem ops_42_8_ns : Go.Region.noSelect ops_42_8 = true := by kernel_rfl
set_option maxRecDepth 100000 in
set_option maxHeartbeats 16000000 in
theorem benchFault_calls (lo lo' lo3 : Nat) (v u z : Value) (cs : List ScD) (fs : List FiD) (ks : List ByteArray) (w : World) (hC : Scs w lo v cs) (hsort : SortedK (cs.map ScD.who)) (hcn : cs.length ≤ 1000000) (hF : Fis w lo3 u fs) (hfn : fs.length ≤ 1000000) (hK : Strs w lo' z ks) (hkn : ks.length ≤ 1000000) :
    Calls Tryz.prog 42 #[v, u, z] w (IntBelow (wnE cs fs ks) w) := by
  have HC := Lib.hid hC
  have HF := Lib.hid hF
  have HK := Lib.hid hK
  have Hsort := Lib.hid hsort
  obtain ⟨ca, cc, rfl⟩ := NRows.shape hC
  obtain ⟨fa, fc, rfl⟩ := fis_shape hF
  obtain ⟨ka, kc, rfl⟩ := strs_shape hK
  clear hC hF hsort hK
  have HE0 := Lib.hid (show wnE cs fs ks = eachE ks.length 20 (wnF cs fs ks) from rfl)
  rw [HE0.out]
  by_cases hm : ks.length ≤ 20
  · have Hm := Lib.hid (show (ks.length : Int) ≤ 20 by omega)
    go_enter Tryz.func42, Tryz.ntmps42
    go_wp2_with fail
    go_loopw [14] (fun i wr => ∃ k : Nat, k ≤ ks.length ∧ i = .int .i64 k ∧ Hid (∀ i, i < k → wnF cs fs ks i = 0) ∧ Below w.heap.size w wr) (fun i _ => ks.length - (intOf i).toNat)
    case atStart => exact ⟨0, Nat.zero_le _, rfl, Lib.hid (fun i hi => by omega), Below.refl _ _⟩
    case round =>
      obtain ⟨k, hk, rfl, H0, hb⟩ := hrel
      by_cases hlt : k < ks.length
      · obtain ⟨s, hs⟩ : ∃ s, ks[k]? = some s := ⟨_, List.getElem?_eq_getElem hlt⟩
        have Hhit := Lib.hid (fun (h : wnF cs fs ks k ≠ 0) => (show eachE ks.length 20 (wnF cs fs ks) = wnF cs fs ks k from eachE_hit Hm.out hlt H0.out h))
        have Hnext := Lib.hid (fun (h : wnF cs fs ks k = 0) i (hi : i < k + 1) => (show wnF cs fs ks i = 0 by
          rcases Nat.lt_succ_iff_lt_or_eq.1 hi with h' | rfl
          · exact H0.out i h'
          · exact h))
        have Hv := Lib.hid (show wnF cs fs ks k = firstE [unlessE (knownB (cs.map ScD.who) s) 8, unlessE (!cnS (ks.take k) s) 6, unlessE (!inF fs s) 13] by unfold wnF; rw [stAt_some hs])
        rcases strs_at HK.out with ⟨_, h⟩ | ⟨g, off, cap, e, _, hg, _, hcell⟩
        · rw [h] at hlt; simp at hlt
        simp only [Value.slice.injEq] at e
        obtain ⟨rfl, -, rfl⟩ := e
        have q0 := below_cell hb (hcell k s hs)
        have hfit : ks.length ≤ kc := Rows.fits HK.out
        have hic : k ≤ kc := by omega
        have hil : k ≤ ks.length := by omega
        have hlt' : (k : Int) < (ks.length : Int) := by omega
        have HT := Lib.hid (show Strs w lo' (.slice (some ⟨g, off, none⟩) k kc) (ks.take k) from by
          have := rows_take HK.out (m := k) (by simp) (by omega)
          rw [← List.map_take] at this
          exact this)
        clear hcell hs
        go_upto_region 6 with fail
        obtain ⟨W, hW⟩ : ∃ W, W = wr.alloc (.cells #[.string s] 9) := ⟨_, rfl⟩
        have hbW : Below w.heap.size w W := by rw [hW]; exact below_step hb (below_alloc wr _)
        have hx : W.heap[wr.heap.size]? = some (.cells #[.string s] 9 (0, 0)) := by rw [hW]; exact heap_alloc_new wr _
        rw [← hW]
        have x0 := cell_at hx 0 rfl
        have HS8 := Lib.hid (show ∀ w', Below W.heap.size W w' → (Below W.heap.size W w' ∧ w'.cell? ⟨wr.heap.size, 0, none⟩ = some (.string s)) from fun w' hb => ⟨hb, below_cell hb x0⟩)
        generalize hX : wr.heap.size = X at HS8 hx x0 ⊢
        clear hW hX q0 hx hb
        go_wp2_with fail
        refine (scorerAt_calls lo _ cs s W (NRows.below HC.out hbW)).mono ?_
        rintro e w1 hat
        have hb1 := hat.2
        obtain ⟨kv, rfl, hkv⟩ := at_of Hsort.out hat
        clear hat x0
        rcases hkv with ⟨rfl, hkn⟩ | ⟨q, rfl, _, hkn⟩
        · rw [hkn] at Hv
          clear hkn
          go_wp2_with fail
          go_ret
          exact ⟨ret_int (by rw [Hhit.out (by rw [Hv.out]; simp [firstE, unlessE]), Hv.out]; simp [firstE, unlessE]), below_step hbW hb1⟩
        · rw [hkn] at Hv
          clear hkn
          go_upto_region 8 with fail
          have hb0 := hb1.drew
          show Code.wp _ (Code.region 8 ops_42_8 true) _ _ _
          refine region_start 6 (fun w' => Below W.heap.size W w' ∧ w'.cell? ⟨X, 0, none⟩ = some (.string s)) (by kernel_rfl) rfl ?_ (fun hHeld => ?_)
          · (exact HS8.out _ (by first | assumption | exact hHeld.1 | exact below_step hHeld.1 (by assumption) | exact below_step hHeld.1 (below_alloc _ _)))
          refine take_to 0 25 #[true, false, false, false, false, false] (v := ?_) ops_42_8_0 rfl ops_42_8_ns (by kernel_rfl) (by kernel_rfl) (fun _ _ _ h => h) (by rfl) ?y08 (by assumption) ?_
          case y08 =>
            intro w hSw
            try dsimp only at hSw
            go_simp
            try with_reducible rfl
          simp only [List.set_cons_zero, List.set_cons_succ]
          refine take_to 1 26 #[true, true, false, false, false, false] (v := ?_) ops_42_8_1 rfl ops_42_8_ns (by kernel_rfl) (by kernel_rfl) (fun _ _ _ h => h) (by rfl) ?y18 (by assumption) ?_
          case y18 =>
            intro w hSw
            try dsimp only at hSw
            go_simp
            try with_reducible rfl
          simp only [List.set_cons_zero, List.set_cons_succ]
          refine take_to 2 27 #[true, true, true, false, false, false] (v := ?_) ops_42_8_2 rfl ops_42_8_ns (by kernel_rfl) (by kernel_rfl) (fun _ _ _ h => h) (by rfl) ?y28 (by assumption) ?_
          case y28 =>
            intro w hSw
            try dsimp only at hSw
            go_simp
            try with_reducible rfl
          simp only [List.set_cons_zero, List.set_cons_succ]
          refine take_to 3 28 #[true, true, true, true, false, false] (v := ?_) ops_42_8_3 rfl ops_42_8_ns (by kernel_rfl) (by kernel_rfl) (fun _ _ _ h => h) (by rfl) ?y38 (by assumption) ?_
          case y38 =>
            intro w hSw
            try dsimp only at hSw
            go_simp
            try with_reducible rfl
          simp only [List.set_cons_zero, List.set_cons_succ]
          refine run_to 4 #[true, true, true, true, true, false] ops_42_8_4 (by kernel_rfl) (by kernel_rfl) (by rfl) (fun K hK => ?_)
          go_simp
          refine (contains_calls lo' _ (ks.take k) s _ (HT.out.below (hbW.trans (hHeld.1.mono hbW.size)))).mono ?_
          rintro e w' ⟨rfl, rfl⟩
          go_wp2_with fail
          refine hK.out _ _ ?_ (fun hHeld => ?_)
          · (exact HS8.out _ (by first | assumption | exact hHeld.1 | exact below_step hHeld.1 (by assumption) | exact below_step hHeld.1 (below_alloc _ _)))
          clear hK K
          try simp only [Act.put, List.setIfInBounds_toArray, List.set_cons_zero, List.set_cons_succ]
          refine take_to 5 24 #[true, true, true, true, true, true] (v := ?_) ops_42_8_5 rfl ops_42_8_ns (by kernel_rfl) (by kernel_rfl) (fun _ _ _ h => h) (by rfl) ?y58 (by assumption) ?_
          case y58 =>
            intro w hSw
            try dsimp only at hSw
            go_simp
            try with_reducible rfl
          simp only [List.set_cons_zero, List.set_cons_succ]
          refine wpAnyH_done (by kernel_rfl) ?_ _
          have hb8 := hHeld.1
          have x0 := hHeld.2
          clear hHeld
          generalize cnS (ks.take k) s = tb at Hv ⊢
          cases tb
          · have CF := Lib.hid (containsFi_calls 96 #[.pointer (some ⟨X, 0, none⟩)] (fun o => beqS o.who s) lo3 _ fs _ (HF.out.below (below_step hbW hb8)) (by intro args w; go_simp) (fun V o hb => benchFault1_calls o s X V (below_cell hb x0)))
            rw [show fs.any (fun o => beqS o.who s) = inF fs s from rfl] at CF
            generalize inF fs s = fb at CF Hv
            go_wp2_with fail
            refine CF.out.mono ?_
            rintro e w9 ⟨rfl, hb9⟩
            clear CF
            cases fb
            · go_wp2_with fail
              go_roundw
              case rel => exact ⟨k + 1, by omega, by go_num, Lib.hid (Hnext.out (by rw [Hv.out]; simp [firstE, unlessE])), below_step (below_step hbW hb8) hb9⟩
              case measure => simp [intOf]; omega
            · go_wp2_with fail
              go_ret
              exact ⟨ret_int (by rw [Hhit.out (by rw [Hv.out]; simp [firstE, unlessE]), Hv.out]; simp [firstE, unlessE]), below_step (below_step hbW hb8) hb9⟩
          · go_wp2_with fail
            go_ret
            exact ⟨ret_int (by rw [Hhit.out (by rw [Hv.out]; simp [firstE, unlessE]), Hv.out]; simp [firstE, unlessE]), below_step hbW hb8⟩
      · obtain rfl : k = ks.length := by omega
        have Hnone := Lib.hid (show eachE ks.length 20 (wnF cs fs ks) = 0 from eachE_none Hm.out H0.out)
        go_wp2_with fail
        go_ret
        exact ⟨ret_int Hnone.out.symm, hb⟩
  · have HE := Lib.hid (show eachE ks.length 20 (wnF cs fs ks) = 2 by unfold eachE; rw [if_pos (by omega)])
    have hgt : (20 : Int) < (ks.length : Int) := by omega
    rw [HE.out]
    clear hm
    go_enter Tryz.func42, Tryz.ntmps42
    go_wp2_with fail
    go_ret
    exact ⟨rfl, Below.refl _ _⟩
end Go.Proofs.YthlfjfmlmcoihaaGreat
