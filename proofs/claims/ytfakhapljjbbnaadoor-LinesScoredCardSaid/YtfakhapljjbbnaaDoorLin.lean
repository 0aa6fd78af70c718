/- LinesScored: the law's walk. -/
import Derived.Test.YtfakhapljjbbnaaDoorPrt
import Derived.Test.YtfakhapljjbbnaaDoorPro
import Derived.Test.YtfakhapljjbbnaaDoorSra
import Derived.Test.YtfakhapljjbbnaaDoorSrb
import Derived.Test.YtfakhapljjbbnaaDoorSre
import Derived.Test.YtfakhapljjbbnaaDoorSrf
import Derived.Test.YtfakhapljjbbnaaDoorSmt
import Derived.Deep.CutRange
namespace Go.Proofs.YtfakhapljjbbnaaDoor
open Go.RowKit

theorem parts_eq {rs : List RD} {ks : List ByteArray} {ts : List TD} (hs : SortedK (ts.map TD.name)) (hk : ∀ r ∈ rs, 1 ≤ r.kind ∧ r.kind ≤ 4) : partsR ks ts rs = prtsI ts (rs.filter (appB ks)) := by
  induction rs with
  | nil => rfl
  | cons r rs ih =>
    have h1 := worth_eq (ks := ks) hs (hk r (by simp))
    have h2 := ih fun r h => hk r (by simp [h])
    unfold partsR prtsI at h2 ⊢
    rw [List.map_cons, List.flatten_cons, h2, List.filter_cons]
    by_cases ha : appB ks r = true
    · rw [if_pos ha] at h1
      rw [if_pos ha, List.map_cons, List.flatten_cons]
      unfold partR prtI
      rw [h1]
    · rw [if_neg ha] at h1
      rw [if_neg ha]
      unfold partR
      rw [h1]
      rfl
theorem first3 (a b c : Int) : firstE [a, b, c] = firstE [firstE [a, b], c] := by
  by_cases ha : a = 0 <;> by_cases hb : b = 0 <;> by_cases hc : c = 0 <;> simp [firstE, ha, hb, hc]
theorem wr_first' (rs : List RD) (ks : List ByteArray) : firstE [chkRl rs, lfE false ks] = wrE rs ks := rfl
theorem fault_eq (rs : List RD) (ks : List ByteArray) (l : LD) : firstE [chkRl rs, lfE false ks, lnE l] = ptsE rs ks l := by
  rw [first3, wr_first']; rfl
def ops_3_5 : Array Go.Oper := #[
  { dst := some 39, op := Go.Op.move (Go.Operand.tmp 4), type := 26, pos := "scores.go:33", after := #[], guard := none },
  { dst := some 40, op := Go.Op.call { callee := Go.Callee.value (Go.Operand.func 11), args := #[Go.Operand.tmp 39], argTypes := #[26] }, type := 37, pos := "scores.go:33", after := #[{ on := 0, ground := Go.Ground.data }], guard := none },
  { dst := some 41, op := Go.Op.move (Go.Operand.tmp 5), type := 28, pos := "scores.go:33", after := #[], guard := none },
  { dst := some 42, op := Go.Op.call { callee := Go.Callee.value (Go.Operand.func 12), args := #[Go.Operand.tmp 41, Go.Operand.const (Go.Value.bool false)], argTypes := #[28, 4] }, type := 37, pos := "scores.go:33", after := #[{ on := 2, ground := Go.Ground.data }, { on := 1, ground := Go.Ground.chain }], guard := none },
  { dst := some 43, op := Go.Op.load 32 (Go.Operand.tmp 6), type := 32, pos := "scores.go:33", after := #[], guard := none },
  { dst := some 44, op := Go.Op.call { callee := Go.Callee.value (Go.Operand.func 13), args := #[Go.Operand.tmp 43], argTypes := #[32] }, type := 37, pos := "scores.go:33", after := #[{ on := 4, ground := Go.Ground.data }, { on := 3, ground := Go.Ground.chain }], guard := none },
  { dst := some 45, op := Go.Op.buildSlice 70 3 #[(0, Go.Operand.tmp 40), (1, Go.Operand.tmp 42), (2, Go.Operand.tmp 44)], type := 70, pos := "scores.go:33", after := #[{ on := 1, ground := Go.Ground.data }, { on := 3, ground := Go.Ground.data }, { on := 5, ground := Go.Ground.data }], guard := none },
  { dst := some 46, op := Go.Op.call { callee := Go.Callee.value (Go.Operand.func 10), args := #[Go.Operand.tmp 45], argTypes := #[70] }, type := 37, pos := "scores.go:33", after := #[{ on := 6, ground := Go.Ground.data }, { on := 5, ground := Go.Ground.chain }], guard := none },
  { dst := some 11, op := Go.Op.assign (Go.Operand.tmp 46), type := 37, pos := "scores.go:33", after := #[{ on := 7, ground := Go.Ground.data }, { on := 7, ground := Go.Ground.chain }, { on := 0, ground := Go.Ground.phase }, { on := 1, ground := Go.Ground.phase }, { on := 2, ground := Go.Ground.phase }, { on := 3, ground := Go.Ground.phase }, { on := 4, ground := Go.Ground.phase }, { on := 5, ground := Go.Ground.phase }, { on := 6, ground := Go.Ground.phase }, { on := 7, ground := Go.Ground.phase }], guard := none }]
theorem ops_3_5_0 : ops_3_5[0]? = some ({ dst := some 39, op := Go.Op.move (Go.Operand.tmp 4), type := 26, pos := "scores.go:33", after := #[], guard := none } : Go.Oper) := rfl
theorem ops_3_5_1 : ops_3_5[1]? = some ({ dst := some 40, op := Go.Op.call { callee := Go.Callee.value (Go.Operand.func 11), args := #[Go.Operand.tmp 39], argTypes := #[26] }, type := 37, pos := "scores.go:33", after := #[{ on := 0, ground := Go.Ground.data }], guard := none } : Go.Oper) := rfl
theorem ops_3_5_2 : ops_3_5[2]? = some ({ dst := some 41, op := Go.Op.move (Go.Operand.tmp 5), type := 28, pos := "scores.go:33", after := #[], guard := none } : Go.Oper) := rfl
theorem ops_3_5_3 : ops_3_5[3]? = some ({ dst := some 42, op := Go.Op.call { callee := Go.Callee.value (Go.Operand.func 12), args := #[Go.Operand.tmp 41, Go.Operand.const (Go.Value.bool false)], argTypes := #[28, 4] }, type := 37, pos := "scores.go:33", after := #[{ on := 2, ground := Go.Ground.data }, { on := 1, ground := Go.Ground.chain }], guard := none } : Go.Oper) := rfl
theorem ops_3_5_4 : ops_3_5[4]? = some ({ dst := some 43, op := Go.Op.load 32 (Go.Operand.tmp 6), type := 32, pos := "scores.go:33", after := #[], guard := none } : Go.Oper) := rfl
theorem ops_3_5_5 : ops_3_5[5]? = some ({ dst := some 44, op := Go.Op.call { callee := Go.Callee.value (Go.Operand.func 13), args := #[Go.Operand.tmp 43], argTypes := #[32] }, type := 37, pos := "scores.go:33", after := #[{ on := 4, ground := Go.Ground.data }, { on := 3, ground := Go.Ground.chain }], guard := none } : Go.Oper) := rfl
theorem ops_3_5_6 : ops_3_5[6]? = some ({ dst := some 45, op := Go.Op.buildSlice 70 3 #[(0, Go.Operand.tmp 40), (1, Go.Operand.tmp 42), (2, Go.Operand.tmp 44)], type := 70, pos := "scores.go:33", after := #[{ on := 1, ground := Go.Ground.data }, { on := 3, ground := Go.Ground.data }, { on := 5, ground := Go.Ground.data }], guard := none } : Go.Oper) := rfl
theorem ops_3_5_7 : ops_3_5[7]? = some ({ dst := some 46, op := Go.Op.call { callee := Go.Callee.value (Go.Operand.func 10), args := #[Go.Operand.tmp 45], argTypes := #[70] }, type := 37, pos := "scores.go:33", after := #[{ on := 6, ground := Go.Ground.data }, { on := 5, ground := Go.Ground.chain }], guard := none } : Go.Oper) := rfl
theorem ops_3_5_8 : ops_3_5[8]? = some ({ dst := some 11, op := Go.Op.assign (Go.Operand.tmp 46), type := 37, pos := "scores.go:33", after := #[{ on := 7, ground := Go.Ground.data }, { on := 7, ground := Go.Ground.chain }, { on := 0, ground := Go.Ground.phase }, { on := 1, ground := Go.Ground.phase }, { on := 2, ground := Go.Ground.phase }, { on := 3, ground := Go.Ground.phase }, { on := 4, ground := Go.Ground.phase }, { on := 5, ground := Go.Ground.phase }, { on := 6, ground := Go.Ground.phase }, { on := 7, ground := Go.Ground.phase }], guard := none } : Go.Oper) := rfl
theorem ops_3_5_ns : Go.Region.noSelect ops_3_5 = true := by kernel_rfl
def ops_3_9 : Array Go.Oper := #[
  { dst := some 50, op := Go.Op.move (Go.Operand.tmp 4), type := 26, pos := "scores.go:37", after := #[], guard := none },
  { dst := some 51, op := Go.Op.move (Go.Operand.tmp 5), type := 28, pos := "scores.go:37", after := #[], guard := none },
  { dst := some 52, op := Go.Op.load 32 (Go.Operand.tmp 6), type := 32, pos := "scores.go:37", after := #[], guard := none },
  { dst := some 53, op := Go.Op.call { callee := Go.Callee.value (Go.Operand.func 14), args := #[Go.Operand.tmp 50, Go.Operand.tmp 51, Go.Operand.tmp 52], argTypes := #[26, 28, 32] }, type := 36, pos := "scores.go:37", after := #[{ on := 0, ground := Go.Ground.data }, { on := 1, ground := Go.Ground.data }, { on := 2, ground := Go.Ground.data }], guard := none },
  { dst := some 54, op := Go.Op.move (Go.Operand.tmp 4), type := 26, pos := "scores.go:37", after := #[], guard := none },
  { dst := some 55, op := Go.Op.move (Go.Operand.tmp 5), type := 28, pos := "scores.go:37", after := #[], guard := none },
  { dst := some 56, op := Go.Op.load 32 (Go.Operand.tmp 6), type := 32, pos := "scores.go:37", after := #[], guard := none },
  { dst := some 57, op := Go.Op.call { callee := Go.Callee.value (Go.Operand.func 15), args := #[Go.Operand.tmp 54, Go.Operand.tmp 55, Go.Operand.tmp 56], argTypes := #[26, 28, 32] }, type := 40, pos := "scores.go:37", after := #[{ on := 4, ground := Go.Ground.data }, { on := 5, ground := Go.Ground.data }, { on := 6, ground := Go.Ground.data }, { on := 3, ground := Go.Ground.chain }], guard := none },
  { dst := none, op := Go.Op.store 36 (Go.Operand.tmp 12) (Go.Operand.tmp 53), type := 0, pos := "scores.go:37", after := #[{ on := 3, ground := Go.Ground.data }, { on := 7, ground := Go.Ground.chain }, { on := 0, ground := Go.Ground.phase }, { on := 1, ground := Go.Ground.phase }, { on := 2, ground := Go.Ground.phase }, { on := 3, ground := Go.Ground.phase }, { on := 4, ground := Go.Ground.textOnly Go.Departure.lateStores }, { on := 5, ground := Go.Ground.textOnly Go.Departure.lateStores }, { on := 6, ground := Go.Ground.textOnly Go.Departure.lateStores }, { on := 7, ground := Go.Ground.textOnly Go.Departure.lateStoresUnsure }], guard := none },
  { dst := some 13, op := Go.Op.assign (Go.Operand.tmp 57), type := 40, pos := "scores.go:37", after := #[{ on := 7, ground := Go.Ground.data }, { on := 8, ground := Go.Ground.chain }, { on := 0, ground := Go.Ground.phase }, { on := 1, ground := Go.Ground.phase }, { on := 2, ground := Go.Ground.phase }, { on := 3, ground := Go.Ground.phase }, { on := 4, ground := Go.Ground.phase }, { on := 5, ground := Go.Ground.phase }, { on := 6, ground := Go.Ground.phase }, { on := 7, ground := Go.Ground.phase }, { on := 8, ground := Go.Ground.phase }], guard := none }]
theorem ops_3_9_0 : ops_3_9[0]? = some ({ dst := some 50, op := Go.Op.move (Go.Operand.tmp 4), type := 26, pos := "scores.go:37", after := #[], guard := none } : Go.Oper) := rfl
theorem ops_3_9_1 : ops_3_9[1]? = some ({ dst := some 51, op := Go.Op.move (Go.Operand.tmp 5), type := 28, pos := "scores.go:37", after := #[], guard := none } : Go.Oper) := rfl
theorem ops_3_9_2 : ops_3_9[2]? = some ({ dst := some 52, op := Go.Op.load 32 (Go.Operand.tmp 6), type := 32, pos := "scores.go:37", after := #[], guard := none } : Go.Oper) := rfl
theorem ops_3_9_3 : ops_3_9[3]? = some ({ dst := some 53, op := Go.Op.call { callee := Go.Callee.value (Go.Operand.func 14), args := #[Go.Operand.tmp 50, Go.Operand.tmp 51, Go.Operand.tmp 52], argTypes := #[26, 28, 32] }, type := 36, pos := "scores.go:37", after := #[{ on := 0, ground := Go.Ground.data }, { on := 1, ground := Go.Ground.data }, { on := 2, ground := Go.Ground.data }], guard := none } : Go.Oper) := rfl
theorem ops_3_9_4 : ops_3_9[4]? = some ({ dst := some 54, op := Go.Op.move (Go.Operand.tmp 4), type := 26, pos := "scores.go:37", after := #[], guard := none } : Go.Oper) := rfl
theorem ops_3_9_5 : ops_3_9[5]? = some ({ dst := some 55, op := Go.Op.move (Go.Operand.tmp 5), type := 28, pos := "scores.go:37", after := #[], guard := none } : Go.Oper) := rfl
theorem ops_3_9_6 : ops_3_9[6]? = some ({ dst := some 56, op := Go.Op.load 32 (Go.Operand.tmp 6), type := 32, pos := "scores.go:37", after := #[], guard := none } : Go.Oper) := rfl
theorem ops_3_9_7 : ops_3_9[7]? = some ({ dst := some 57, op := Go.Op.call { callee := Go.Callee.value (Go.Operand.func 15), args := #[Go.Operand.tmp 54, Go.Operand.tmp 55, Go.Operand.tmp 56], argTypes := #[26, 28, 32] }, type := 40, pos := "scores.go:37", after := #[{ on := 4, ground := Go.Ground.data }, { on := 5, ground := Go.Ground.data }, { on := 6, ground := Go.Ground.data }, { on := 3, ground := Go.Ground.chain }], guard := none } : Go.Oper) := rfl
theorem ops_3_9_8 : ops_3_9[8]? = some ({ dst := none, op := Go.Op.store 36 (Go.Operand.tmp 12) (Go.Operand.tmp 53), type := 0, pos := "scores.go:37", after := #[{ on := 3, ground := Go.Ground.data }, { on := 7, ground := Go.Ground.chain }, { on := 0, ground := Go.Ground.phase }, { on := 1, ground := Go.Ground.phase }, { on := 2, ground := Go.Ground.phase }, { on := 3, ground := Go.Ground.phase }, { on := 4, ground := Go.Ground.textOnly Go.Departure.lateStores }, { on := 5, ground := Go.Ground.textOnly Go.Departure.lateStores }, { on := 6, ground := Go.Ground.textOnly Go.Departure.lateStores }, { on := 7, ground := Go.Ground.textOnly Go.Departure.lateStoresUnsure }], guard := none } : Go.Oper) := rfl
theorem ops_3_9_9 : ops_3_9[9]? = some ({ dst := some 13, op := Go.Op.assign (Go.Operand.tmp 57), type := 40, pos := "scores.go:37", after := #[{ on := 7, ground := Go.Ground.data }, { on := 8, ground := Go.Ground.chain }, { on := 0, ground := Go.Ground.phase }, { on := 1, ground := Go.Ground.phase }, { on := 2, ground := Go.Ground.phase }, { on := 3, ground := Go.Ground.phase }, { on := 4, ground := Go.Ground.phase }, { on := 5, ground := Go.Ground.phase }, { on := 6, ground := Go.Ground.phase }, { on := 7, ground := Go.Ground.phase }, { on := 8, ground := Go.Ground.phase }], guard := none } : Go.Oper) := rfl
theorem ops_3_9_ns : Go.Region.noSelect ops_3_9 = true := by kernel_rfl
def ops_3_10 : Array Go.Oper := #[
  { dst := some 58, op := Go.Op.load 32 (Go.Operand.tmp 6), type := 32, pos := "scores.go:39", after := #[], guard := none },
  { dst := some 59, op := Go.Op.call { callee := Go.Callee.value (Go.Operand.func 16), args := #[Go.Operand.tmp 58], argTypes := #[32] }, type := 37, pos := "scores.go:39", after := #[{ on := 0, ground := Go.Ground.data }], guard := none },
  { dst := some 60, op := Go.Op.load 32 (Go.Operand.tmp 6), type := 32, pos := "scores.go:39", after := #[], guard := none },
  { dst := some 61, op := Go.Op.call { callee := Go.Callee.value (Go.Operand.func 13), args := #[Go.Operand.tmp 60], argTypes := #[32] }, type := 37, pos := "scores.go:39", after := #[{ on := 2, ground := Go.Ground.data }, { on := 1, ground := Go.Ground.chain }], guard := none },
  { dst := some 62, op := Go.Op.binOp Go.BinOp.eql 37 (Go.Operand.tmp 59) (Go.Operand.tmp 61) 37, type := 4, pos := "scores.go:39", after := #[{ on := 1, ground := Go.Ground.data }, { on := 3, ground := Go.Ground.data }], guard := none },
  { dst := some 63, op := Go.Op.move (Go.Operand.tmp 62), type := 4, pos := "scores.go:39", after := #[{ on := 4, ground := Go.Ground.data }, { on := 3, ground := Go.Ground.chain }], guard := none },
  { dst := some 64, op := Go.Op.move (Go.Operand.tmp 4), type := 26, pos := "scores.go:39", after := #[{ on := 5, ground := Go.Ground.guard }], guard := some (5, true) },
  { dst := some 65, op := Go.Op.call { callee := Go.Callee.value (Go.Operand.func 17), args := #[Go.Operand.tmp 64], argTypes := #[26] }, type := 37, pos := "scores.go:39", after := #[{ on := 6, ground := Go.Ground.data }, { on := 5, ground := Go.Ground.chain }, { on := 5, ground := Go.Ground.guard }], guard := some (5, true) },
  { dst := some 66, op := Go.Op.move (Go.Operand.tmp 4), type := 26, pos := "scores.go:39", after := #[{ on := 5, ground := Go.Ground.guard }], guard := some (5, true) },
  { dst := some 67, op := Go.Op.call { callee := Go.Callee.value (Go.Operand.func 11), args := #[Go.Operand.tmp 66], argTypes := #[26] }, type := 37, pos := "scores.go:39", after := #[{ on := 8, ground := Go.Ground.data }, { on := 7, ground := Go.Ground.chain }, { on := 5, ground := Go.Ground.guard }], guard := some (5, true) },
  { dst := some 68, op := Go.Op.binOp Go.BinOp.eql 37 (Go.Operand.tmp 65) (Go.Operand.tmp 67) 37, type := 4, pos := "scores.go:39", after := #[{ on := 7, ground := Go.Ground.data }, { on := 9, ground := Go.Ground.data }, { on := 5, ground := Go.Ground.guard }], guard := some (5, true) },
  { dst := some 69, op := Go.Op.pick (Go.Operand.tmp 63) (Go.Operand.tmp 68) (Go.Operand.const (Go.Value.bool false)), type := 4, pos := "scores.go:39", after := #[{ on := 5, ground := Go.Ground.data }, { on := 10, ground := Go.Ground.data }], guard := none },
  { dst := some 70, op := Go.Op.move (Go.Operand.tmp 69), type := 4, pos := "scores.go:39", after := #[{ on := 11, ground := Go.Ground.data }, { on := 9, ground := Go.Ground.chain }], guard := none },
  { dst := some 71, op := Go.Op.move (Go.Operand.tmp 8), type := 37, pos := "scores.go:39", after := #[{ on := 12, ground := Go.Ground.guard }], guard := some (12, true) },
  { dst := some 72, op := Go.Op.move (Go.Operand.tmp 11), type := 37, pos := "scores.go:39", after := #[{ on := 12, ground := Go.Ground.guard }], guard := some (12, true) },
  { dst := some 73, op := Go.Op.binOp Go.BinOp.eql 37 (Go.Operand.tmp 71) (Go.Operand.tmp 72) 37, type := 4, pos := "scores.go:39", after := #[{ on := 13, ground := Go.Ground.data }, { on := 14, ground := Go.Ground.data }, { on := 12, ground := Go.Ground.guard }], guard := some (12, true) },
  { dst := some 74, op := Go.Op.pick (Go.Operand.tmp 70) (Go.Operand.tmp 73) (Go.Operand.const (Go.Value.bool false)), type := 4, pos := "scores.go:39", after := #[{ on := 12, ground := Go.Ground.data }, { on := 15, ground := Go.Ground.data }], guard := none },
  { dst := some 75, op := Go.Op.move (Go.Operand.tmp 74), type := 4, pos := "scores.go:39", after := #[{ on := 16, ground := Go.Ground.data }, { on := 12, ground := Go.Ground.chain }], guard := none },
  { dst := some 76, op := Go.Op.load 36 (Go.Operand.tmp 7), type := 36, pos := "scores.go:39", after := #[{ on := 17, ground := Go.Ground.guard }], guard := some (17, true) },
  { dst := some 77, op := Go.Op.load 36 (Go.Operand.tmp 12), type := 36, pos := "scores.go:39", after := #[{ on := 17, ground := Go.Ground.guard }], guard := some (17, true) },
  { dst := some 78, op := Go.Op.binOp Go.BinOp.eql 36 (Go.Operand.tmp 76) (Go.Operand.tmp 77) 36, type := 4, pos := "scores.go:39", after := #[{ on := 18, ground := Go.Ground.data }, { on := 19, ground := Go.Ground.data }, { on := 17, ground := Go.Ground.guard }], guard := some (17, true) },
  { dst := some 79, op := Go.Op.pick (Go.Operand.tmp 75) (Go.Operand.tmp 78) (Go.Operand.const (Go.Value.bool false)), type := 4, pos := "scores.go:39", after := #[{ on := 17, ground := Go.Ground.data }, { on := 20, ground := Go.Ground.data }], guard := none },
  { dst := some 80, op := Go.Op.move (Go.Operand.tmp 79), type := 4, pos := "scores.go:39", after := #[{ on := 21, ground := Go.Ground.data }, { on := 17, ground := Go.Ground.chain }], guard := none },
  { dst := some 81, op := Go.Op.move (Go.Operand.tmp 10), type := 37, pos := "scores.go:39", after := #[{ on := 22, ground := Go.Ground.guard }], guard := some (22, true) },
  { dst := some 82, op := Go.Op.move (Go.Operand.tmp 11), type := 37, pos := "scores.go:39", after := #[{ on := 22, ground := Go.Ground.guard }], guard := some (22, true) },
  { dst := some 83, op := Go.Op.binOp Go.BinOp.eql 37 (Go.Operand.tmp 81) (Go.Operand.tmp 82) 37, type := 4, pos := "scores.go:39", after := #[{ on := 23, ground := Go.Ground.data }, { on := 24, ground := Go.Ground.data }, { on := 22, ground := Go.Ground.guard }], guard := some (22, true) },
  { dst := some 84, op := Go.Op.pick (Go.Operand.tmp 80) (Go.Operand.tmp 83) (Go.Operand.const (Go.Value.bool false)), type := 4, pos := "scores.go:39", after := #[{ on := 22, ground := Go.Ground.data }, { on := 25, ground := Go.Ground.data }], guard := none },
  { dst := some 85, op := Go.Op.move (Go.Operand.tmp 84), type := 4, pos := "scores.go:39", after := #[{ on := 26, ground := Go.Ground.data }, { on := 22, ground := Go.Ground.chain }], guard := none },
  { dst := some 86, op := Go.Op.move (Go.Operand.tmp 9), type := 40, pos := "scores.go:39", after := #[{ on := 27, ground := Go.Ground.guard }], guard := some (27, true) },
  { dst := some 87, op := Go.Op.move (Go.Operand.tmp 13), type := 40, pos := "scores.go:39", after := #[{ on := 27, ground := Go.Ground.guard }], guard := some (27, true) },
  { dst := some 88, op := Go.Op.call { callee := Go.Callee.value (Go.Operand.func 18), args := #[Go.Operand.tmp 86, Go.Operand.tmp 87], argTypes := #[40, 40] }, type := 4, pos := "scores.go:39", after := #[{ on := 28, ground := Go.Ground.data }, { on := 29, ground := Go.Ground.data }, { on := 27, ground := Go.Ground.chain }, { on := 27, ground := Go.Ground.guard }], guard := some (27, true) },
  { dst := some 89, op := Go.Op.pick (Go.Operand.tmp 85) (Go.Operand.tmp 88) (Go.Operand.const (Go.Value.bool false)), type := 4, pos := "scores.go:39", after := #[{ on := 27, ground := Go.Ground.data }, { on := 30, ground := Go.Ground.data }], guard := none },
  { dst := some 90, op := Go.Op.move (Go.Operand.tmp 89), type := 4, pos := "scores.go:39", after := #[{ on := 31, ground := Go.Ground.data }, { on := 30, ground := Go.Ground.chain }], guard := none },
  { dst := some 91, op := Go.Op.call { callee := Go.Callee.value (Go.Operand.func 19), args := #[], argTypes := #[] }, type := 4, pos := "scores.go:39", after := #[{ on := 32, ground := Go.Ground.chain }, { on := 32, ground := Go.Ground.guard }], guard := some (32, true) },
  { dst := some 92, op := Go.Op.pick (Go.Operand.tmp 90) (Go.Operand.tmp 91) (Go.Operand.const (Go.Value.bool false)), type := 4, pos := "scores.go:39", after := #[{ on := 32, ground := Go.Ground.data }, { on := 33, ground := Go.Ground.data }], guard := none },
  { dst := some 2, op := Go.Op.assign (Go.Operand.tmp 92), type := 4, pos := "scores.go:39", after := #[{ on := 34, ground := Go.Ground.data }, { on := 33, ground := Go.Ground.chain }, { on := 0, ground := Go.Ground.phase }, { on := 1, ground := Go.Ground.phase }, { on := 2, ground := Go.Ground.phase }, { on := 3, ground := Go.Ground.phase }, { on := 4, ground := Go.Ground.phase }, { on := 5, ground := Go.Ground.phase }, { on := 6, ground := Go.Ground.phase }, { on := 7, ground := Go.Ground.phase }, { on := 8, ground := Go.Ground.phase }, { on := 9, ground := Go.Ground.phase }, { on := 10, ground := Go.Ground.phase }, { on := 11, ground := Go.Ground.phase }, { on := 12, ground := Go.Ground.phase }, { on := 13, ground := Go.Ground.phase }, { on := 14, ground := Go.Ground.phase }, { on := 15, ground := Go.Ground.phase }, { on := 16, ground := Go.Ground.phase }, { on := 17, ground := Go.Ground.phase }, { on := 18, ground := Go.Ground.phase }, { on := 19, ground := Go.Ground.phase }, { on := 20, ground := Go.Ground.phase }, { on := 21, ground := Go.Ground.phase }, { on := 22, ground := Go.Ground.phase }, { on := 23, ground := Go.Ground.phase }, { on := 24, ground := Go.Ground.phase }, { on := 25, ground := Go.Ground.phase }, { on := 26, ground := Go.Ground.phase }, { on := 27, ground := Go.Ground.phase }, { on := 28, ground := Go.Ground.phase }, { on := 29, ground := Go.Ground.phase }, { on := 30, ground := Go.Ground.phase }, { on := 31, ground := Go.Ground.phase }, { on := 32, ground := Go.Ground.phase }, { on := 33, ground := Go.Ground.phase }, { on := 34, ground := Go.Ground.phase }], guard := none }]
theorem ops_3_10_0 : ops_3_10[0]? = some ({ dst := some 58, op := Go.Op.load 32 (Go.Operand.tmp 6), type := 32, pos := "scores.go:39", after := #[], guard := none } : Go.Oper) := rfl
theorem ops_3_10_1 : ops_3_10[1]? = some ({ dst := some 59, op := Go.Op.call { callee := Go.Callee.value (Go.Operand.func 16), args := #[Go.Operand.tmp 58], argTypes := #[32] }, type := 37, pos := "scores.go:39", after := #[{ on := 0, ground := Go.Ground.data }], guard := none } : Go.Oper) := rfl
theorem ops_3_10_2 : ops_3_10[2]? = some ({ dst := some 60, op := Go.Op.load 32 (Go.Operand.tmp 6), type := 32, pos := "scores.go:39", after := #[], guard := none } : Go.Oper) := rfl
theorem ops_3_10_3 : ops_3_10[3]? = some ({ dst := some 61, op := Go.Op.call { callee := Go.Callee.value (Go.Operand.func 13), args := #[Go.Operand.tmp 60], argTypes := #[32] }, type := 37, pos := "scores.go:39", after := #[{ on := 2, ground := Go.Ground.data }, { on := 1, ground := Go.Ground.chain }], guard := none } : Go.Oper) := rfl
theorem ops_3_10_4 : ops_3_10[4]? = some ({ dst := some 62, op := Go.Op.binOp Go.BinOp.eql 37 (Go.Operand.tmp 59) (Go.Operand.tmp 61) 37, type := 4, pos := "scores.go:39", after := #[{ on := 1, ground := Go.Ground.data }, { on := 3, ground := Go.Ground.data }], guard := none } : Go.Oper) := rfl
theorem ops_3_10_5 : ops_3_10[5]? = some ({ dst := some 63, op := Go.Op.move (Go.Operand.tmp 62), type := 4, pos := "scores.go:39", after := #[{ on := 4, ground := Go.Ground.data }, { on := 3, ground := Go.Ground.chain }], guard := none } : Go.Oper) := rfl
theorem ops_3_10_6 : ops_3_10[6]? = some ({ dst := some 64, op := Go.Op.move (Go.Operand.tmp 4), type := 26, pos := "scores.go:39", after := #[{ on := 5, ground := Go.Ground.guard }], guard := some (5, true) } : Go.Oper) := rfl
theorem ops_3_10_7 : ops_3_10[7]? = some ({ dst := some 65, op := Go.Op.call { callee := Go.Callee.value (Go.Operand.func 17), args := #[Go.Operand.tmp 64], argTypes := #[26] }, type := 37, pos := "scores.go:39", after := #[{ on := 6, ground := Go.Ground.data }, { on := 5, ground := Go.Ground.chain }, { on := 5, ground := Go.Ground.guard }], guard := some (5, true) } : Go.Oper) := rfl
theorem ops_3_10_8 : ops_3_10[8]? = some ({ dst := some 66, op := Go.Op.move (Go.Operand.tmp 4), type := 26, pos := "scores.go:39", after := #[{ on := 5, ground := Go.Ground.guard }], guard := some (5, true) } : Go.Oper) := rfl
theorem ops_3_10_9 : ops_3_10[9]? = some ({ dst := some 67, op := Go.Op.call { callee := Go.Callee.value (Go.Operand.func 11), args := #[Go.Operand.tmp 66], argTypes := #[26] }, type := 37, pos := "scores.go:39", after := #[{ on := 8, ground := Go.Ground.data }, { on := 7, ground := Go.Ground.chain }, { on := 5, ground := Go.Ground.guard }], guard := some (5, true) } : Go.Oper) := rfl
theorem ops_3_10_10 : ops_3_10[10]? = some ({ dst := some 68, op := Go.Op.binOp Go.BinOp.eql 37 (Go.Operand.tmp 65) (Go.Operand.tmp 67) 37, type := 4, pos := "scores.go:39", after := #[{ on := 7, ground := Go.Ground.data }, { on := 9, ground := Go.Ground.data }, { on := 5, ground := Go.Ground.guard }], guard := some (5, true) } : Go.Oper) := rfl
theorem ops_3_10_11 : ops_3_10[11]? = some ({ dst := some 69, op := Go.Op.pick (Go.Operand.tmp 63) (Go.Operand.tmp 68) (Go.Operand.const (Go.Value.bool false)), type := 4, pos := "scores.go:39", after := #[{ on := 5, ground := Go.Ground.data }, { on := 10, ground := Go.Ground.data }], guard := none } : Go.Oper) := rfl
theorem ops_3_10_12 : ops_3_10[12]? = some ({ dst := some 70, op := Go.Op.move (Go.Operand.tmp 69), type := 4, pos := "scores.go:39", after := #[{ on := 11, ground := Go.Ground.data }, { on := 9, ground := Go.Ground.chain }], guard := none } : Go.Oper) := rfl
theorem ops_3_10_13 : ops_3_10[13]? = some ({ dst := some 71, op := Go.Op.move (Go.Operand.tmp 8), type := 37, pos := "scores.go:39", after := #[{ on := 12, ground := Go.Ground.guard }], guard := some (12, true) } : Go.Oper) := rfl
theorem ops_3_10_14 : ops_3_10[14]? = some ({ dst := some 72, op := Go.Op.move (Go.Operand.tmp 11), type := 37, pos := "scores.go:39", after := #[{ on := 12, ground := Go.Ground.guard }], guard := some (12, true) } : Go.Oper) := rfl
theorem ops_3_10_15 : ops_3_10[15]? = some ({ dst := some 73, op := Go.Op.binOp Go.BinOp.eql 37 (Go.Operand.tmp 71) (Go.Operand.tmp 72) 37, type := 4, pos := "scores.go:39", after := #[{ on := 13, ground := Go.Ground.data }, { on := 14, ground := Go.Ground.data }, { on := 12, ground := Go.Ground.guard }], guard := some (12, true) } : Go.Oper) := rfl
theorem ops_3_10_16 : ops_3_10[16]? = some ({ dst := some 74, op := Go.Op.pick (Go.Operand.tmp 70) (Go.Operand.tmp 73) (Go.Operand.const (Go.Value.bool false)), type := 4, pos := "scores.go:39", after := #[{ on := 12, ground := Go.Ground.data }, { on := 15, ground := Go.Ground.data }], guard := none } : Go.Oper) := rfl
theorem ops_3_10_17 : ops_3_10[17]? = some ({ dst := some 75, op := Go.Op.move (Go.Operand.tmp 74), type := 4, pos := "scores.go:39", after := #[{ on := 16, ground := Go.Ground.data }, { on := 12, ground := Go.Ground.chain }], guard := none } : Go.Oper) := rfl
theorem ops_3_10_18 : ops_3_10[18]? = some ({ dst := some 76, op := Go.Op.load 36 (Go.Operand.tmp 7), type := 36, pos := "scores.go:39", after := #[{ on := 17, ground := Go.Ground.guard }], guard := some (17, true) } : Go.Oper) := rfl
theorem ops_3_10_19 : ops_3_10[19]? = some ({ dst := some 77, op := Go.Op.load 36 (Go.Operand.tmp 12), type := 36, pos := "scores.go:39", after := #[{ on := 17, ground := Go.Ground.guard }], guard := some (17, true) } : Go.Oper) := rfl
theorem ops_3_10_20 : ops_3_10[20]? = some ({ dst := some 78, op := Go.Op.binOp Go.BinOp.eql 36 (Go.Operand.tmp 76) (Go.Operand.tmp 77) 36, type := 4, pos := "scores.go:39", after := #[{ on := 18, ground := Go.Ground.data }, { on := 19, ground := Go.Ground.data }, { on := 17, ground := Go.Ground.guard }], guard := some (17, true) } : Go.Oper) := rfl
theorem ops_3_10_21 : ops_3_10[21]? = some ({ dst := some 79, op := Go.Op.pick (Go.Operand.tmp 75) (Go.Operand.tmp 78) (Go.Operand.const (Go.Value.bool false)), type := 4, pos := "scores.go:39", after := #[{ on := 17, ground := Go.Ground.data }, { on := 20, ground := Go.Ground.data }], guard := none } : Go.Oper) := rfl
theorem ops_3_10_22 : ops_3_10[22]? = some ({ dst := some 80, op := Go.Op.move (Go.Operand.tmp 79), type := 4, pos := "scores.go:39", after := #[{ on := 21, ground := Go.Ground.data }, { on := 17, ground := Go.Ground.chain }], guard := none } : Go.Oper) := rfl
theorem ops_3_10_23 : ops_3_10[23]? = some ({ dst := some 81, op := Go.Op.move (Go.Operand.tmp 10), type := 37, pos := "scores.go:39", after := #[{ on := 22, ground := Go.Ground.guard }], guard := some (22, true) } : Go.Oper) := rfl
theorem ops_3_10_24 : ops_3_10[24]? = some ({ dst := some 82, op := Go.Op.move (Go.Operand.tmp 11), type := 37, pos := "scores.go:39", after := #[{ on := 22, ground := Go.Ground.guard }], guard := some (22, true) } : Go.Oper) := rfl
theorem ops_3_10_25 : ops_3_10[25]? = some ({ dst := some 83, op := Go.Op.binOp Go.BinOp.eql 37 (Go.Operand.tmp 81) (Go.Operand.tmp 82) 37, type := 4, pos := "scores.go:39", after := #[{ on := 23, ground := Go.Ground.data }, { on := 24, ground := Go.Ground.data }, { on := 22, ground := Go.Ground.guard }], guard := some (22, true) } : Go.Oper) := rfl
theorem ops_3_10_26 : ops_3_10[26]? = some ({ dst := some 84, op := Go.Op.pick (Go.Operand.tmp 80) (Go.Operand.tmp 83) (Go.Operand.const (Go.Value.bool false)), type := 4, pos := "scores.go:39", after := #[{ on := 22, ground := Go.Ground.data }, { on := 25, ground := Go.Ground.data }], guard := none } : Go.Oper) := rfl
theorem ops_3_10_27 : ops_3_10[27]? = some ({ dst := some 85, op := Go.Op.move (Go.Operand.tmp 84), type := 4, pos := "scores.go:39", after := #[{ on := 26, ground := Go.Ground.data }, { on := 22, ground := Go.Ground.chain }], guard := none } : Go.Oper) := rfl
theorem ops_3_10_28 : ops_3_10[28]? = some ({ dst := some 86, op := Go.Op.move (Go.Operand.tmp 9), type := 40, pos := "scores.go:39", after := #[{ on := 27, ground := Go.Ground.guard }], guard := some (27, true) } : Go.Oper) := rfl
theorem ops_3_10_29 : ops_3_10[29]? = some ({ dst := some 87, op := Go.Op.move (Go.Operand.tmp 13), type := 40, pos := "scores.go:39", after := #[{ on := 27, ground := Go.Ground.guard }], guard := some (27, true) } : Go.Oper) := rfl
theorem ops_3_10_30 : ops_3_10[30]? = some ({ dst := some 88, op := Go.Op.call { callee := Go.Callee.value (Go.Operand.func 18), args := #[Go.Operand.tmp 86, Go.Operand.tmp 87], argTypes := #[40, 40] }, type := 4, pos := "scores.go:39", after := #[{ on := 28, ground := Go.Ground.data }, { on := 29, ground := Go.Ground.data }, { on := 27, ground := Go.Ground.chain }, { on := 27, ground := Go.Ground.guard }], guard := some (27, true) } : Go.Oper) := rfl
theorem ops_3_10_31 : ops_3_10[31]? = some ({ dst := some 89, op := Go.Op.pick (Go.Operand.tmp 85) (Go.Operand.tmp 88) (Go.Operand.const (Go.Value.bool false)), type := 4, pos := "scores.go:39", after := #[{ on := 27, ground := Go.Ground.data }, { on := 30, ground := Go.Ground.data }], guard := none } : Go.Oper) := rfl
theorem ops_3_10_32 : ops_3_10[32]? = some ({ dst := some 90, op := Go.Op.move (Go.Operand.tmp 89), type := 4, pos := "scores.go:39", after := #[{ on := 31, ground := Go.Ground.data }, { on := 30, ground := Go.Ground.chain }], guard := none } : Go.Oper) := rfl
theorem ops_3_10_33 : ops_3_10[33]? = some ({ dst := some 91, op := Go.Op.call { callee := Go.Callee.value (Go.Operand.func 19), args := #[], argTypes := #[] }, type := 4, pos := "scores.go:39", after := #[{ on := 32, ground := Go.Ground.chain }, { on := 32, ground := Go.Ground.guard }], guard := some (32, true) } : Go.Oper) := rfl
theorem ops_3_10_34 : ops_3_10[34]? = some ({ dst := some 92, op := Go.Op.pick (Go.Operand.tmp 90) (Go.Operand.tmp 91) (Go.Operand.const (Go.Value.bool false)), type := 4, pos := "scores.go:39", after := #[{ on := 32, ground := Go.Ground.data }, { on := 33, ground := Go.Ground.data }], guard := none } : Go.Oper) := rfl
theorem ops_3_10_35 : ops_3_10[35]? = some ({ dst := some 2, op := Go.Op.assign (Go.Operand.tmp 92), type := 4, pos := "scores.go:39", after := #[{ on := 34, ground := Go.Ground.data }, { on := 33, ground := Go.Ground.chain }, { on := 0, ground := Go.Ground.phase }, { on := 1, ground := Go.Ground.phase }, { on := 2, ground := Go.Ground.phase }, { on := 3, ground := Go.Ground.phase }, { on := 4, ground := Go.Ground.phase }, { on := 5, ground := Go.Ground.phase }, { on := 6, ground := Go.Ground.phase }, { on := 7, ground := Go.Ground.phase }, { on := 8, ground := Go.Ground.phase }, { on := 9, ground := Go.Ground.phase }, { on := 10, ground := Go.Ground.phase }, { on := 11, ground := Go.Ground.phase }, { on := 12, ground := Go.Ground.phase }, { on := 13, ground := Go.Ground.phase }, { on := 14, ground := Go.Ground.phase }, { on := 15, ground := Go.Ground.phase }, { on := 16, ground := Go.Ground.phase }, { on := 17, ground := Go.Ground.phase }, { on := 18, ground := Go.Ground.phase }, { on := 19, ground := Go.Ground.phase }, { on := 20, ground := Go.Ground.phase }, { on := 21, ground := Go.Ground.phase }, { on := 22, ground := Go.Ground.phase }, { on := 23, ground := Go.Ground.phase }, { on := 24, ground := Go.Ground.phase }, { on := 25, ground := Go.Ground.phase }, { on := 26, ground := Go.Ground.phase }, { on := 27, ground := Go.Ground.phase }, { on := 28, ground := Go.Ground.phase }, { on := 29, ground := Go.Ground.phase }, { on := 30, ground := Go.Ground.phase }, { on := 31, ground := Go.Ground.phase }, { on := 32, ground := Go.Ground.phase }, { on := 33, ground := Go.Ground.phase }, { on := 34, ground := Go.Ground.phase }], guard := none } : Go.Oper) := rfl
theorem ops_3_10_ns : Go.Region.noSelect ops_3_10 = true := by kernel_rfl
set_option maxRecDepth 100000 in
set_option maxHeartbeats 16000000 in
theorem lines_law (lv : Value) (w : World) (hl : Tape w lv) (hD : DigB w) : Calls Tryd.prog 3 #[lv] w (BoolIs true w) := by
  have hs1 := hl.stm 25
  obtain ⟨la, ln, lc, rfl⟩ := hl.shape
  have HD := Lib.hid hD
  clear hl hD
  go_enter Tryd.func3, Tryd.ntmps3
  go_wp2_with fail
  refine (rules_calls w.heap.size 0 _ hs1 (by omega)).mono ?_
  rintro e w2 ⟨vr, ⟨rs, hR, hrl, hrs⟩, rfl, hs2, hg2⟩
  have hb2 : Below w.heap.size w w2 := (below_alloc w _).grown hg2 (by simp) (fun r hr => by cases hr; exact Nat.le_refl _)
  have Hrs := Lib.hid hrs
  obtain ⟨ra, rc, rfl⟩ := rls_shape hR
  have hlo1 : w.heap.size < (w.alloc (.cells #[.slice la ln lc, .int .i64 0] 25)).heap.size := by simp
  clear hs1 hg2 hrs
  generalize (w.alloc (.cells #[.slice la ln lc, .int .i64 0] 25)).heap.size = lo1 at hR hlo1
  go_wp2_with fail
  refine (posits_calls w.heap.size _ w2 hs2 (by omega)).mono ?_
  rintro e w3 ⟨vk, ⟨ks, hK, hkl, hks⟩, rfl, hs3, hg3⟩
  have hlo2 := hs2.lt
  have hb3 := hb2.grown hg3 (hb2.size) (fun r hr => by cases hr; exact Nat.le_refl _)
  have hR3 := hR.other hg3 hlo1
  have Hks := Lib.hid hks
  obtain ⟨ka, kc, rfl⟩ := strs_shape hK
  clear hs2 hg3 hks hR hb2
  generalize w2.heap.size = lo2 at hK hlo2
  go_wp2_with fail
  refine (range_calls w.heap.size _ 1 4 w3 hs3 (by omega) (by omega) (by omega) (by omega)).mono ?_
  rintro e w4 ⟨v, ⟨m0, rfl, hm0, hm4⟩, rfl, hs4, hg4⟩
  have hlo3 := hs4.lt
  go_wp2_with fail
  refine (aLine_calls w.heap.size _ m0 w4 hs4 (by omega) (by unfold Int64; omega)).mono ?_
  rintro e w5 ⟨v, ⟨l, x, rfl, hT, hsl⟩, rfl, hs5, hg5⟩
  have hg35 := gb_trans hg4 hg5
  have hR5 := hR3.other hg35 hlo1
  have hK5 := hK.other hg35 hlo2
  have hb5 := hb3.grown hg35 hb3.size (fun r hr => by cases hr; exact Nat.le_refl _)
  have Hsl := Lib.hid hsl
  obtain ⟨xa, xc, rfl⟩ := tds_shape hT
  unfold lnV
  clear hs3 hs4 hs5 hg4 hg5 hg35 hR3 hK hb3 hsl hm0 hm4
  generalize w4.heap.size = lo3 at hT hlo3
  go_upto_region 3 with fail
  obtain ⟨W, hW⟩ : ∃ W, W = w5.alloc (.cells #[.string l.player, .int .i64 l.week, .slice xa l.stats.length xc] 32) := ⟨_, rfl⟩
  obtain ⟨X, hX⟩ : ∃ X, X = w5.heap.size := ⟨_, rfl⟩
  have hx : W.heap[X]? = some (.cells #[.string l.player, .int .i64 l.week, .slice xa l.stats.length xc] 32 (0, 0)) := by rw [hW, hX]; exact heap_alloc_new w5 _
  have h5W : Below w5.heap.size w5 W := by rw [hW]; exact below_alloc w5 _
  rw [← hW, ← hX]
  have HX := Lib.hid (show ∀ w', Below W.heap.size W w' → w'.cell? ⟨X, 0, none⟩ = some (.string l.player) ∧ w'.cell? ⟨X, 1, none⟩ = some (.int .i64 l.week) ∧ w'.cell? ⟨X, 2, none⟩ = some (.slice xa l.stats.length xc) from fun w' hb => ⟨below_cell hb (cell_at hx 0 rfl), below_cell hb (cell_at hx 1 rfl), below_cell hb (cell_at hx 2 rfl)⟩)
  have HR := Lib.hid (fun w' (hb : Below W.heap.size W w') => hR5.below (below_step h5W hb))
  have HK := Lib.hid (fun w' (hb : Below W.heap.size W w') => hK5.below (below_step h5W hb))
  have HT := Lib.hid (fun w' (hb : Below W.heap.size W w') => hT.below (below_step h5W hb))
  have HW := Lib.hid (below_step hb5 h5W)
  have HC1 := Lib.hid (points2_calls lo1 lo2 lo3 _ _ _ rs ks l W (HR.out W (Below.refl _ _)) Hrs.out (by omega) (HK.out W (Below.refl _ _)) Hks.out (by omega) (HT.out W (Below.refl _ _)) Hsl.out)
  have HC2 := Lib.hid (fun w' (hb : Below W.heap.size W w') => parts_calls lo1 lo2 lo3 _ _ _ rs ks l w' (HR.out w' hb) Hrs.out (by omega) (HK.out w' hb) Hks.out (by omega) (HT.out w' hb) Hsl.out (HD.out.below (below_step HW.out hb)))
  have HFit := Lib.hid (fun (h : ptsE rs ks l = 0) => fit_of (firstE_all0 (firstE_all0 h (wrE rs ks) (by simp)) (chkRl rs) (by simp)) (firstE_all0 h (lnE l) (by simp)))
  have HRok := Lib.hid (fun (h : ptsE rs ks l = 0) => rules_ok (firstE_all0 (firstE_all0 h (wrE rs ks) (by simp)) (chkRl rs) (by simp)))
  have HLok := Lib.hid (fun (h : ptsE rs ks l = 0) => line_ok (firstE_all0 h (lnE l) (by simp)))
  have HE := Lib.hid (fault_eq rs ks l)
  have HR0 := Lib.hid (show ptsE rs ks l ≠ 0 → ptsF rs ks l = (0, 0) from fun h => by unfold ptsF; rw [if_neg h])
  have HR1 := Lib.hid (show ptsE rs ks l = 0 → ptsF rs ks l = lowF (ptsI rs ks l.stats) 100 from fun h => by unfold ptsF; rw [if_pos h])
  have HP0 := Lib.hid (show ptsE rs ks l ≠ 0 → ptsP rs ks l = [] from fun h => by unfold ptsP; rw [if_neg h])
  have HP1 := Lib.hid (show ptsE rs ks l = 0 → ptsP rs ks l = prtsI l.stats (rs.filter (appB ks)) from fun h => by unfold ptsP; rw [if_pos h])
  have HPl := Lib.hid (show (ptsP rs ks l).length ≤ 1000000 by
    unfold ptsP; split
    · have := prtsI_len l.stats (rs.filter (appB ks)); have := List.length_filter_le (appB ks) rs; omega
    · simp)
  obtain ⟨x0, x1, x2⟩ := HX.out W (Below.refl _ _)
  unfold TwoIs frV lnV at HC1
  unfold lnV at HC2
  clear hW hX hx h5W hR5 hK5 hT hb5
  generalize hFF : ptsF rs ks l = FF at HC1 HR0 HR1
  obtain ⟨r1, r2⟩ := FF
  clear hFF
  go_wp2_with fail
  refine HC1.out.mono ?_
  rintro e w6 ⟨rfl, hb6⟩
  have Hb6 := Lib.hid hb6
  clear hb6 x0 x1 x2 HC1
  go_upto_region 4 with fail
  obtain ⟨V6, hV6⟩ : ∃ V6, V6 = w6.alloc (.cells #[.int .i64 r1, .int .i64 r2] 36) := ⟨_, rfl⟩
  obtain ⟨G, hG⟩ : ∃ G, G = w6.heap.size := ⟨_, rfl⟩
  have hz : V6.heap[G]? = some (.cells #[.int .i64 r1, .int .i64 r2] 36 (0, 0)) := by rw [hV6, hG]; exact heap_alloc_new w6 _
  have hb6 : Below W.heap.size W V6 := by rw [hV6]; exact below_step Hb6.out (below_alloc w6 _)
  rw [← hV6, ← hG]
  obtain ⟨x0, x1, x2⟩ := HX.out V6 hb6
  have Hz := Lib.hid hz
  have HbV := Lib.hid hb6
  clear hV6 hG hz hb6
  go_wp2_with fail
  refine (HC2.out _ HbV.out).mono ?_
  rintro e w7 ⟨y, rfl, hY, hb7⟩
  obtain ⟨ya, yc, rfl⟩ := prs_shape hY
  have hb7' := below_step HbV.out hb7
  have hz7 := cells_later Hz.out hb7
  have Hb7 := Lib.hid hb7'
  have HY := Lib.hid hY
  have Hz7 := Lib.hid hz7
  have HS := Lib.hid (show ∀ w', Below w7.heap.size w7 w' → (Below w7.heap.size w7 w' ∧ w'.cell? ⟨X, 0, none⟩ = some (.string l.player) ∧ w'.cell? ⟨X, 1, none⟩ = some (.int .i64 l.week) ∧ w'.cell? ⟨X, 2, none⟩ = some (.slice xa l.stats.length xc)) from fun w' hb => ⟨hb, HX.out w' (below_step hb7' hb)⟩)
  have hb0 := (Below.refl w7.heap.size w7).drew
  clear hb7 hb7' hY hz7 x0 x1 x2 HC2 HbV Hb6 Hz
  generalize hPP : ptsP rs ks l = PP at HY HP0 HP1 HPl
  clear hPP
  generalize ptsE rs ks l = E at HE HR0 HR1 HP0 HP1 HFit HRok HLok
  go_upto_region 5 with fail
  show Code.wp _ (Code.region 5 ops_3_5 true) _ _ _
  refine region_start 9 (fun w' => Below w7.heap.size w7 w' ∧ w'.cell? ⟨X, 0, none⟩ = some (.string l.player) ∧ w'.cell? ⟨X, 1, none⟩ = some (.int .i64 l.week) ∧ w'.cell? ⟨X, 2, none⟩ = some (.slice xa l.stats.length xc)) (by kernel_rfl) rfl ?_ (fun hHeld => ?_)
  · (exact HS.out _ (by first | assumption | exact hHeld.1 | exact below_step hHeld.1 (by assumption) | exact below_step hHeld.1 (below_alloc _ _)))
  refine take_to 0 39 #[true, false, false, false, false, false, false, false, false] (v := ?_) ops_3_5_0 rfl ops_3_5_ns (by kernel_rfl) (by kernel_rfl) (fun _ _ _ h => h) (by rfl) ?y0 (by assumption) ?_
  case y0 =>
    intro w hSw
    try dsimp only at hSw
    go_simp
    try with_reducible rfl
  simp only [List.set_cons_zero, List.set_cons_succ]
  refine take_to 2 41 #[true, false, true, false, false, false, false, false, false] (v := ?_) ops_3_5_2 rfl ops_3_5_ns (by kernel_rfl) (by kernel_rfl) (fun _ _ _ h => h) (by rfl) ?y2 (by assumption) ?_
  case y2 =>
    intro w hSw
    try dsimp only at hSw
    go_simp
    try with_reducible rfl
  simp only [List.set_cons_zero, List.set_cons_succ]
  refine take_to 4 43 #[true, false, true, false, true, false, false, false, false] (v := ?_) ops_3_5_4 rfl ops_3_5_ns (by kernel_rfl) (by kernel_rfl) (fun _ _ _ h => h) (by rfl) ?y4 (by assumption) ?_
  case y4 =>
    intro w hSw
    try dsimp only at hSw
    go_simp
    try with_reducible rfl
  simp only [List.set_cons_zero, List.set_cons_succ]
  refine run_to 1 #[true, true, true, false, true, false, false, false, false] ops_3_5_1 (by kernel_rfl) (by kernel_rfl) (by rfl) (fun K hK => ?_)
  go_simp
  refine (rulesFault_calls lo1 _ rs _ (HR.out _ (below_step Hb7.out hHeld.1)) Hrs.out (by omega)).mono ?_
  rintro e w' ⟨rfl, hb'⟩
  go_wp2_with fail
  refine hK.out _ _ ?_ (fun hHeld => ?_)
  · (exact HS.out _ (by first | assumption | exact hHeld.1 | exact below_step hHeld.1 (by assumption) | exact below_step hHeld.1 (below_alloc _ _)))
  clear hK K
  try simp only [Act.put, List.setIfInBounds_toArray, List.set_cons_zero, List.set_cons_succ]
  refine run_to 3 #[true, true, true, true, true, false, false, false, false] ops_3_5_3 (by kernel_rfl) (by kernel_rfl) (by rfl) (fun K hK => ?_)
  go_simp
  refine (listFault_calls false lo2 _ ks _ (HK.out _ (below_step Hb7.out hHeld.1)) Hks.out (by omega)).mono ?_
  rintro e w' ⟨rfl, rfl⟩
  go_wp2_with fail
  refine hK.out _ _ ?_ (fun hHeld => ?_)
  · (exact HS.out _ (by first | assumption | exact hHeld.1 | exact below_step hHeld.1 (by assumption) | exact below_step hHeld.1 (below_alloc _ _)))
  clear hK K
  try simp only [Act.put, List.setIfInBounds_toArray, List.set_cons_zero, List.set_cons_succ]
  refine run_to 5 #[true, true, true, true, true, true, false, false, false] ops_3_5_5 (by kernel_rfl) (by kernel_rfl) (by rfl) (fun K hK => ?_)
  go_simp
  refine (lineFault_calls lo3 l _ _ (HT.out _ (below_step Hb7.out hHeld.1)) Hsl.out).mono ?_
  rintro e w' ⟨rfl, hb'⟩
  go_wp2_with fail
  refine hK.out _ _ ?_ (fun hHeld => ?_)
  · (exact HS.out _ (by first | assumption | exact hHeld.1 | exact below_step hHeld.1 (by assumption) | exact below_step hHeld.1 (below_alloc _ _)))
  clear hK K
  try simp only [Act.put, List.setIfInBounds_toArray, List.set_cons_zero, List.set_cons_succ]
  refine run_to 6 #[true, true, true, true, true, true, true, false, false] ops_3_5_6 (by kernel_rfl) (by kernel_rfl) (by rfl) (fun K hK => ?_)
  go_simp
  refine hK.out _ _ ?_ (fun hHeld => ?_)
  · (exact HS.out _ (by first | assumption | exact hHeld.1 | exact below_step hHeld.1 (by assumption) | exact below_step hHeld.1 (below_alloc _ _)))
  clear hK K
  try simp only [Act.put, List.setIfInBounds_toArray, List.set_cons_zero, List.set_cons_succ]
  refine run_to 7 #[true, true, true, true, true, true, true, true, false] ops_3_5_7 (by kernel_rfl) (by kernel_rfl) (by rfl) (fun K hK => ?_)
  go_simp
  refine (errs_calls _ 0 3 [chkRl rs, lfE false ks, lnE l] _ (by simp) (by exact nums3' _ _ _ _ _)).mono ?_
  rintro e w' ⟨rfl, rfl⟩
  rw [HE.out]
  go_wp2_with fail
  refine hK.out _ _ ?_ (fun hHeld => ?_)
  · (exact HS.out _ (by first | assumption | exact hHeld.1 | exact below_step hHeld.1 (by assumption) | exact below_step hHeld.1 (below_alloc _ _)))
  clear hK K
  try simp only [Act.put, List.setIfInBounds_toArray, List.set_cons_zero, List.set_cons_succ]
  refine take_to 8 11 #[true, true, true, true, true, true, true, true, true] (v := ?_) ops_3_5_8 rfl ops_3_5_ns (by kernel_rfl) (by kernel_rfl) (fun _ _ _ h => h) (by rfl) ?y8 (by assumption) ?_
  case y8 =>
    intro w hSw
    try dsimp only at hSw
    go_simp
    try with_reducible rfl
  simp only [List.set_cons_zero, List.set_cons_succ]
  refine wpAnyH_done (by kernel_rfl) ?_ _
  have hb8 := hHeld.1
  generalize w'.alloc (.cells #[.int .i64 (chkRl rs), .int .i64 (lfE false ks), .int .i64 (lnE l)] 37) = w8 at hb8 ⊢
  have Hb8 := Lib.hid hb8
  clear hb8 hb0 hHeld
  go_upto_region 7 with fail
  obtain ⟨V, hV⟩ : ∃ V, V = w8.alloc (.cells #[.int .i64 0, .int .i64 0] 36) := ⟨_, rfl⟩
  obtain ⟨H, hH⟩ : ∃ H, H = w8.heap.size := ⟨_, rfl⟩
  have hh : V.heap[H]? = some (.cells #[.int .i64 0, .int .i64 0] 36 (0, 0)) := by rw [hV, hH]; exact heap_alloc_new w8 _
  have hb8 : Below w7.heap.size w7 V := by rw [hV]; exact below_step Hb8.out (below_alloc w8 _)
  have hHW : w7.heap.size ≤ H := by rw [hH]; exact Hb8.out.size
  rw [← hV, ← hH]
  have HH := Lib.hid hh
  have HV := Lib.hid hb8
  have HHW := Lib.hid hHW
  clear hV hH hh hb8 hHW
  go_upto_if 49 with fail
  go_cut [13] from 49 to 57 (fun y2 wd => (∃ za zc, y2 = .slice za PP.length zc ∧ Prs wd w7.heap.size y2 PP) ∧ wd.cell? ⟨H, 0, none⟩ = some (.int .i64 r1) ∧ wd.cell? ⟨H, 1, none⟩ = some (.int .i64 r2) ∧ Below w7.heap.size w7 wd)
  case first =>
    by_cases hz : E = 0
    · have e1 : (E == 0) = true := by simp [hz]
      have HFt := Lib.hid (HFit.out hz)
      have HRo := Lib.hid (HRok.out hz)
      have HLo := Lib.hid (HLok.out hz)
      have HRq := Lib.hid (HR1.out hz)
      have HPq := Lib.hid (HP1.out hz)
      have hbv := (Below.refl V.heap.size V).drew
      have hb0 := HV.out.drew
      have hHW := HHW.out
      clear hz HFit HRok HLok HR0 HR1 HP0 HP1
      go_upto_region 9 with fail
      show Code.wp _ (Code.region 9 ops_3_9 true) _ _ _
      refine region_start 10 (fun w' => Below w7.heap.size w7 w' ∧ w'.cell? ⟨X, 0, none⟩ = some (.string l.player) ∧ w'.cell? ⟨X, 1, none⟩ = some (.int .i64 l.week) ∧ w'.cell? ⟨X, 2, none⟩ = some (.slice xa l.stats.length xc)) (by kernel_rfl) rfl ?_ (fun hHeld => ?_)
      · (exact HS.out _ (by first | assumption | exact hHeld.1 | exact below_step hHeld.1 (by assumption) | exact below_step hHeld.1 (below_alloc _ _) | exact (hHeld.1.setCell (p := ⟨H, 0, none⟩) hHW _).setCell (p := ⟨H, 1, none⟩) hHW _))
      refine take_to 0 50 #[true, false, false, false, false, false, false, false, false, false] (v := ?_) ops_3_9_0 rfl ops_3_9_ns (by kernel_rfl) (by kernel_rfl) (fun _ _ _ h => h) (by rfl) ?y0 (by assumption) ?_
      case y0 =>
        intro w hSw
        try dsimp only at hSw
        go_simp
        try with_reducible rfl
      simp only [List.set_cons_zero, List.set_cons_succ]
      refine take_to 1 51 #[true, true, false, false, false, false, false, false, false, false] (v := ?_) ops_3_9_1 rfl ops_3_9_ns (by kernel_rfl) (by kernel_rfl) (fun _ _ _ h => h) (by rfl) ?y1 (by assumption) ?_
      case y1 =>
        intro w hSw
        try dsimp only at hSw
        go_simp
        try with_reducible rfl
      simp only [List.set_cons_zero, List.set_cons_succ]
      refine take_to 2 52 #[true, true, true, false, false, false, false, false, false, false] (v := ?_) ops_3_9_2 rfl ops_3_9_ns (by kernel_rfl) (by kernel_rfl) (fun _ _ _ h => h) (by rfl) ?y2 (by assumption) ?_
      case y2 =>
        intro w hSw
        try dsimp only at hSw
        go_simp
        try with_reducible rfl
      simp only [List.set_cons_zero, List.set_cons_succ]
      refine take_to 4 54 #[true, true, true, false, true, false, false, false, false, false] (v := ?_) ops_3_9_4 rfl ops_3_9_ns (by kernel_rfl) (by kernel_rfl) (fun _ _ _ h => h) (by rfl) ?y4 (by assumption) ?_
      case y4 =>
        intro w hSw
        try dsimp only at hSw
        go_simp
        try with_reducible rfl
      simp only [List.set_cons_zero, List.set_cons_succ]
      refine take_to 5 55 #[true, true, true, false, true, true, false, false, false, false] (v := ?_) ops_3_9_5 rfl ops_3_9_ns (by kernel_rfl) (by kernel_rfl) (fun _ _ _ h => h) (by rfl) ?y5 (by assumption) ?_
      case y5 =>
        intro w hSw
        try dsimp only at hSw
        go_simp
        try with_reducible rfl
      simp only [List.set_cons_zero, List.set_cons_succ]
      refine take_to 6 56 #[true, true, true, false, true, true, true, false, false, false] (v := ?_) ops_3_9_6 rfl ops_3_9_ns (by kernel_rfl) (by kernel_rfl) (fun _ _ _ h => h) (by rfl) ?y6 (by assumption) ?_
      case y6 =>
        intro w hSw
        try dsimp only at hSw
        go_simp
        try with_reducible rfl
      simp only [List.set_cons_zero, List.set_cons_succ]
      refine run_to 3 #[true, true, true, true, true, true, true, false, false, false] ops_3_9_3 (by kernel_rfl) (by kernel_rfl) (by rfl) (fun K hK => ?_)
      go_simp
      refine (pointsOf_calls lo1 lo2 lo3 _ _ _ rs ks l _ (HR.out _ (below_step Hb7.out hHeld.1)) HRo.out.1 HFt.out (HK.out _ (below_step Hb7.out hHeld.1)) (HT.out _ (below_step Hb7.out hHeld.1)) HLo.out.2 (fun r hr => (HRo.out.2 r hr).1)).mono ?_
      rintro e w' ⟨rfl, hb'⟩
      replace hbv := below_step hbv hb'
      rw [← HRq.out]
      unfold frV
      dsimp only
      go_wp2_with fail
      refine hK.out _ _ ?_ (fun hHeld => ?_)
      · (exact HS.out _ (by first | assumption | exact hHeld.1 | exact below_step hHeld.1 (by assumption) | exact below_step hHeld.1 (below_alloc _ _) | exact (hHeld.1.setCell (p := ⟨H, 0, none⟩) hHW _).setCell (p := ⟨H, 1, none⟩) hHW _))
      clear hK K
      try simp only [Act.put, List.setIfInBounds_toArray, List.set_cons_zero, List.set_cons_succ]
      refine run_to 7 #[true, true, true, true, true, true, true, true, false, false] ops_3_9_7 (by kernel_rfl) (by kernel_rfl) (by rfl) (fun K hK => ?_)
      go_simp
      refine (partsOf_calls lo1 lo2 lo3 _ _ _ rs ks l _ (HR.out _ (below_step Hb7.out hHeld.1)) HRo.out.1 HFt.out (HK.out _ (below_step Hb7.out hHeld.1)) (HT.out _ (below_step Hb7.out hHeld.1)) HLo.out.2 (fun r hr => (HRo.out.2 r hr).1) (HD.out.below (below_step HW.out (below_step Hb7.out hHeld.1)))).mono ?_
      rintro e w9 ⟨z, rfl, hZ, hb9⟩
      have hlz : H < w'.heap.size := by have := hbv.size; have := lt_of_heap HH.out; omega
      replace hbv := below_step hbv hb9
      rw [parts_eq HLo.out.2 (fun r hr => (HRo.out.2 r hr).1), ← HPq.out] at hZ
      obtain ⟨za, zc, rfl⟩ := prs_shape hZ
      go_wp2_with fail
      refine hK.out _ _ ?_ (fun hHeld => ?_)
      · (exact HS.out _ (by first | assumption | exact hHeld.1 | exact below_step hHeld.1 (by assumption) | exact below_step hHeld.1 (below_alloc _ _) | exact (hHeld.1.setCell (p := ⟨H, 0, none⟩) hHW _).setCell (p := ⟨H, 1, none⟩) hHW _))
      clear hK K
      try simp only [Act.put, List.setIfInBounds_toArray, List.set_cons_zero, List.set_cons_succ]
      refine run_to 8 #[true, true, true, true, true, true, true, true, true, false] ops_3_9_8 (by kernel_rfl) (by kernel_rfl) (by rfl) (fun K hK => ?_)
      have hHx := cells_later HH.out hbv
      have f0 := free_of hHx 0
      have f1 := free_of hHx 1
      have g0 := cell_at hHx 0 rfl
      have g1 := cell_at hHx 1 rfl
      go_simp
      refine hK.out _ _ ?_ (fun hHeld => ?_)
      · (exact HS.out _ (by first | assumption | exact hHeld.1 | exact below_step hHeld.1 (by assumption) | exact below_step hHeld.1 (below_alloc _ _) | exact (hHeld.1.setCell (p := ⟨H, 0, none⟩) hHW _).setCell (p := ⟨H, 1, none⟩) hHW _))
      clear hK K
      try simp only [List.setIfInBounds_toArray, List.set_cons_zero, List.set_cons_succ]
      refine take_to 9 13 #[true, true, true, true, true, true, true, true, true, true] (v := ?_) ops_3_9_9 rfl ops_3_9_ns (by kernel_rfl) (by kernel_rfl) (fun _ _ _ h => h) (by rfl) ?y9 (by assumption) ?_
      case y9 =>
        intro w hSw
        try dsimp only at hSw
        go_simp
        try with_reducible rfl
      simp only [List.set_cons_zero, List.set_cons_succ]
      refine wpAnyH_done (by kernel_rfl) ?_ _
      have Hq := Lib.hid (hHeld.1)
      have HZ2 := Lib.hid (Rows.mono (Rows.other hZ (gb_trans (gb_setCell w9 H 0 (.int .i64 r1)) (gb_setCell _ H 1 (.int .i64 r2))) hlz) (show w7.heap.size ≤ w'.heap.size by omega))
      have hHx := cells_later HH.out hbv
      have Hg0 := Lib.hid (cell_at hHx 0 rfl)
      have Hg1 := Lib.hid (cell_at hHx 1 rfl)
      have g0 := Hg0.out
      have g1 := Hg1.out
      clear hHeld hb0 hbv hHx hZ hlz hHW e1
      go_wp2_with fail
      go_meet
      case rel => exact ⟨⟨za, zc, rfl, HZ2.out⟩, by go_simp, by go_simp, Hq.out⟩
    · have e1 : (E == 0) = false := by simp [hz]
      have h1 := HR0.out hz
      have h2 := HP0.out hz
      simp only [Prod.mk.injEq] at h1
      obtain ⟨rfl, rfl⟩ := h1
      subst h2
      clear hz HFit HRok HLok HR0 HR1 HP0 HP1
      go_wp2_with fail
      go_meet
      case rel => exact ⟨⟨none, 0, rfl, ⟨by simp, by simp, .inl ⟨rfl, rfl⟩⟩⟩, cell_at HH.out 0 rfl, cell_at HH.out 1 rfl, HV.out⟩
  case rest =>
    obtain ⟨⟨za, zc, rfl, hZ⟩, hh0, hh1, hbc⟩ := hcut
    have HZ := Lib.hid hZ
    have Hc7 := Lib.hid hbc
    have Hbc := Lib.hid (below_step Hb7.out hbc)
    have HG := Lib.hid (show ∀ w', Below wc.heap.size wc w' → (Below wc.heap.size wc w' ∧ w'.cell? ⟨X, 0, none⟩ = some (.string l.player) ∧ w'.cell? ⟨X, 1, none⟩ = some (.int .i64 l.week) ∧ w'.cell? ⟨X, 2, none⟩ = some (.slice xa l.stats.length xc) ∧ w'.cell? ⟨G, 0, none⟩ = some (.int .i64 r1) ∧ w'.cell? ⟨G, 1, none⟩ = some (.int .i64 r2) ∧ w'.cell? ⟨H, 0, none⟩ = some (.int .i64 r1) ∧ w'.cell? ⟨H, 1, none⟩ = some (.int .i64 r2)) from fun w' hb => ⟨hb, (HS.out w' (below_step hbc hb)).2.1, (HS.out w' (below_step hbc hb)).2.2.1, (HS.out w' (below_step hbc hb)).2.2.2, below_cell (below_step hbc hb) (cell_at Hz7.out 0 rfl), below_cell (below_step hbc hb) (cell_at Hz7.out 1 rfl), below_cell hb hh0, below_cell hb hh1⟩)
    have hb0 := (Below.refl wc.heap.size wc).drew
    clear hZ hh0 hh1 hbc HR0 HR1 HP0 HP1 HFit HRok HLok
    go_upto_region 10 with fail
    show Code.wp _ (Code.region 10 ops_3_10 true) _ _ _
    refine region_start 36 (fun w' => Below wc.heap.size wc w' ∧ w'.cell? ⟨X, 0, none⟩ = some (.string l.player) ∧ w'.cell? ⟨X, 1, none⟩ = some (.int .i64 l.week) ∧ w'.cell? ⟨X, 2, none⟩ = some (.slice xa l.stats.length xc) ∧ w'.cell? ⟨G, 0, none⟩ = some (.int .i64 r1) ∧ w'.cell? ⟨G, 1, none⟩ = some (.int .i64 r2) ∧ w'.cell? ⟨H, 0, none⟩ = some (.int .i64 r1) ∧ w'.cell? ⟨H, 1, none⟩ = some (.int .i64 r2)) (by kernel_rfl) rfl ?_ (fun hHeld => ?_)
    · (exact HG.out _ (by first | assumption | exact hHeld.1 | exact below_step hHeld.1 (by assumption)))
    refine take_to 0 58 #[true, false, false, false, false, false, false, false, false, false, false, false, false, false, false, false, false, false, false, false, false, false, false, false, false, false, false, false, false, false, false, false, false, false, false, false] (v := ?_) ops_3_10_0 rfl ops_3_10_ns (by kernel_rfl) (by kernel_rfl) (fun _ _ _ h => h) (by rfl) ?y0 (by assumption) ?_
    case y0 =>
      intro w hSw
      try dsimp only at hSw
      go_simp
      try with_reducible rfl
    simp only [List.set_cons_zero, List.set_cons_succ]
    refine take_to 2 60 #[true, false, true, false, false, false, false, false, false, false, false, false, false, false, false, false, false, false, false, false, false, false, false, false, false, false, false, false, false, false, false, false, false, false, false, false] (v := ?_) ops_3_10_2 rfl ops_3_10_ns (by kernel_rfl) (by kernel_rfl) (fun _ _ _ h => h) (by rfl) ?y2 (by assumption) ?_
    case y2 =>
      intro w hSw
      try dsimp only at hSw
      go_simp
      try with_reducible rfl
    simp only [List.set_cons_zero, List.set_cons_succ]
    refine run_to 1 #[true, true, true, false, false, false, false, false, false, false, false, false, false, false, false, false, false, false, false, false, false, false, false, false, false, false, false, false, false, false, false, false, false, false, false, false] ops_3_10_1 (by kernel_rfl) (by kernel_rfl) (by rfl) (fun K hK => ?_)
    go_simp
    refine (checkLine_calls lo3 l _ _ (HT.out _ (below_step Hbc.out hHeld.1)) Hsl.out).mono ?_
    rintro e w' ⟨rfl, hb'⟩
    go_wp2_with fail
    refine hK.out _ _ ?_ (fun hHeld => ?_)
    · (exact HG.out _ (by first | assumption | exact hHeld.1 | exact below_step hHeld.1 (by assumption)))
    clear hK K
    try simp only [Act.put, List.setIfInBounds_toArray, List.set_cons_zero, List.set_cons_succ]
    refine run_to 3 #[true, true, true, true, false, false, false, false, false, false, false, false, false, false, false, false, false, false, false, false, false, false, false, false, false, false, false, false, false, false, false, false, false, false, false, false] ops_3_10_3 (by kernel_rfl) (by kernel_rfl) (by rfl) (fun K hK => ?_)
    go_simp
    refine (lineFault_calls lo3 l _ _ (HT.out _ (below_step Hbc.out hHeld.1)) Hsl.out).mono ?_
    rintro e w' ⟨rfl, hb'⟩
    go_wp2_with fail
    refine hK.out _ _ ?_ (fun hHeld => ?_)
    · (exact HG.out _ (by first | assumption | exact hHeld.1 | exact below_step hHeld.1 (by assumption)))
    clear hK K
    try simp only [Act.put, List.setIfInBounds_toArray, List.set_cons_zero, List.set_cons_succ]
    refine take_to 4 62 #[true, true, true, true, true, false, false, false, false, false, false, false, false, false, false, false, false, false, false, false, false, false, false, false, false, false, false, false, false, false, false, false, false, false, false, false] (v := ?_) ops_3_10_4 rfl ops_3_10_ns (by kernel_rfl) (by kernel_rfl) (fun _ _ _ h => h) (by rfl) ?y4 (by assumption) ?_
    case y4 =>
      intro w hSw
      try dsimp only at hSw
      go_simp
      try with_reducible rfl
    simp only [List.set_cons_zero, List.set_cons_succ]
    refine take_to 5 63 #[true, true, true, true, true, true, false, false, false, false, false, false, false, false, false, false, false, false, false, false, false, false, false, false, false, false, false, false, false, false, false, false, false, false, false, false] (v := ?_) ops_3_10_5 rfl ops_3_10_ns (by kernel_rfl) (by kernel_rfl) (fun _ _ _ h => h) (by rfl) ?y5 (by assumption) ?_
    case y5 =>
      intro w hSw
      try dsimp only at hSw
      go_simp
      try with_reducible rfl
    simp only [List.set_cons_zero, List.set_cons_succ]
    refine take_to 6 64 #[true, true, true, true, true, true, true, false, false, false, false, false, false, false, false, false, false, false, false, false, false, false, false, false, false, false, false, false, false, false, false, false, false, false, false, false] (v := ?_) ops_3_10_6 rfl ops_3_10_ns (by kernel_rfl) (by kernel_rfl) (fun _ _ _ h => h) (by rfl) ?y6 (by assumption) ?_
    case y6 =>
      intro w hSw
      try dsimp only at hSw
      go_simp
      try with_reducible rfl
    simp only [List.set_cons_zero, List.set_cons_succ]
    refine take_to 8 66 #[true, true, true, true, true, true, true, false, true, false, false, false, false, false, false, false, false, false, false, false, false, false, false, false, false, false, false, false, false, false, false, false, false, false, false, false] (v := ?_) ops_3_10_8 rfl ops_3_10_ns (by kernel_rfl) (by kernel_rfl) (fun _ _ _ h => h) (by rfl) ?y8 (by assumption) ?_
    case y8 =>
      intro w hSw
      try dsimp only at hSw
      go_simp
      try with_reducible rfl
    simp only [List.set_cons_zero, List.set_cons_succ]
    refine run_to 7 #[true, true, true, true, true, true, true, true, true, false, false, false, false, false, false, false, false, false, false, false, false, false, false, false, false, false, false, false, false, false, false, false, false, false, false, false] ops_3_10_7 (by kernel_rfl) (by kernel_rfl) (by rfl) (fun K hK => ?_)
    go_simp
    refine (checkRules_calls lo1 _ rs _ (HR.out _ (below_step Hbc.out hHeld.1)) Hrs.out (by omega)).mono ?_
    rintro e w' ⟨rfl, hb'⟩
    go_wp2_with fail
    refine hK.out _ _ ?_ (fun hHeld => ?_)
    · (exact HG.out _ (by first | assumption | exact hHeld.1 | exact below_step hHeld.1 (by assumption)))
    clear hK K
    try simp only [Act.put, List.setIfInBounds_toArray, List.set_cons_zero, List.set_cons_succ]
    refine run_to 9 #[true, true, true, true, true, true, true, true, true, true, false, false, false, false, false, false, false, false, false, false, false, false, false, false, false, false, false, false, false, false, false, false, false, false, false, false] ops_3_10_9 (by kernel_rfl) (by kernel_rfl) (by rfl) (fun K hK => ?_)
    go_simp
    refine (rulesFault_calls lo1 _ rs _ (HR.out _ (below_step Hbc.out hHeld.1)) Hrs.out (by omega)).mono ?_
    rintro e w' ⟨rfl, hb'⟩
    go_wp2_with fail
    refine hK.out _ _ ?_ (fun hHeld => ?_)
    · (exact HG.out _ (by first | assumption | exact hHeld.1 | exact below_step hHeld.1 (by assumption)))
    clear hK K
    try simp only [Act.put, List.setIfInBounds_toArray, List.set_cons_zero, List.set_cons_succ]
    refine take_to 10 68 #[true, true, true, true, true, true, true, true, true, true, true, false, false, false, false, false, false, false, false, false, false, false, false, false, false, false, false, false, false, false, false, false, false, false, false, false] (v := ?_) ops_3_10_10 rfl ops_3_10_ns (by kernel_rfl) (by kernel_rfl) (fun _ _ _ h => h) (by rfl) ?y10 (by assumption) ?_
    case y10 =>
      intro w hSw
      try dsimp only at hSw
      go_simp
      try with_reducible rfl
    simp only [List.set_cons_zero, List.set_cons_succ]
    refine take_to 11 69 #[true, true, true, true, true, true, true, true, true, true, true, true, false, false, false, false, false, false, false, false, false, false, false, false, false, false, false, false, false, false, false, false, false, false, false, false] (v := ?_) ops_3_10_11 rfl ops_3_10_ns (by kernel_rfl) (by kernel_rfl) (fun _ _ _ h => h) (by rfl) ?y11 (by assumption) ?_
    case y11 =>
      intro w hSw
      try dsimp only at hSw
      go_simp
      try with_reducible rfl
    simp only [List.set_cons_zero, List.set_cons_succ]
    refine take_to 12 70 #[true, true, true, true, true, true, true, true, true, true, true, true, true, false, false, false, false, false, false, false, false, false, false, false, false, false, false, false, false, false, false, false, false, false, false, false] (v := ?_) ops_3_10_12 rfl ops_3_10_ns (by kernel_rfl) (by kernel_rfl) (fun _ _ _ h => h) (by rfl) ?y12 (by assumption) ?_
    case y12 =>
      intro w hSw
      try dsimp only at hSw
      go_simp
      try with_reducible rfl
    simp only [List.set_cons_zero, List.set_cons_succ]
    refine take_to 13 71 #[true, true, true, true, true, true, true, true, true, true, true, true, true, true, false, false, false, false, false, false, false, false, false, false, false, false, false, false, false, false, false, false, false, false, false, false] (v := ?_) ops_3_10_13 rfl ops_3_10_ns (by kernel_rfl) (by kernel_rfl) (fun _ _ _ h => h) (by rfl) ?y13 (by assumption) ?_
    case y13 =>
      intro w hSw
      try dsimp only at hSw
      go_simp
      try with_reducible rfl
    simp only [List.set_cons_zero, List.set_cons_succ]
    refine take_to 14 72 #[true, true, true, true, true, true, true, true, true, true, true, true, true, true, true, false, false, false, false, false, false, false, false, false, false, false, false, false, false, false, false, false, false, false, false, false] (v := ?_) ops_3_10_14 rfl ops_3_10_ns (by kernel_rfl) (by kernel_rfl) (fun _ _ _ h => h) (by rfl) ?y14 (by assumption) ?_
    case y14 =>
      intro w hSw
      try dsimp only at hSw
      go_simp
      try with_reducible rfl
    simp only [List.set_cons_zero, List.set_cons_succ]
    refine take_to 15 73 #[true, true, true, true, true, true, true, true, true, true, true, true, true, true, true, true, false, false, false, false, false, false, false, false, false, false, false, false, false, false, false, false, false, false, false, false] (v := ?_) ops_3_10_15 rfl ops_3_10_ns (by kernel_rfl) (by kernel_rfl) (fun _ _ _ h => h) (by rfl) ?y15 (by assumption) ?_
    case y15 =>
      intro w hSw
      try dsimp only at hSw
      go_simp
      try with_reducible rfl
    simp only [List.set_cons_zero, List.set_cons_succ]
    refine take_to 16 74 #[true, true, true, true, true, true, true, true, true, true, true, true, true, true, true, true, true, false, false, false, false, false, false, false, false, false, false, false, false, false, false, false, false, false, false, false] (v := ?_) ops_3_10_16 rfl ops_3_10_ns (by kernel_rfl) (by kernel_rfl) (fun _ _ _ h => h) (by rfl) ?y16 (by assumption) ?_
    case y16 =>
      intro w hSw
      try dsimp only at hSw
      go_simp
      try with_reducible rfl
    simp only [List.set_cons_zero, List.set_cons_succ]
    refine take_to 17 75 #[true, true, true, true, true, true, true, true, true, true, true, true, true, true, true, true, true, true, false, false, false, false, false, false, false, false, false, false, false, false, false, false, false, false, false, false] (v := ?_) ops_3_10_17 rfl ops_3_10_ns (by kernel_rfl) (by kernel_rfl) (fun _ _ _ h => h) (by rfl) ?y17 (by assumption) ?_
    case y17 =>
      intro w hSw
      try dsimp only at hSw
      go_simp
      try with_reducible rfl
    simp only [List.set_cons_zero, List.set_cons_succ]
    refine take_to 18 76 #[true, true, true, true, true, true, true, true, true, true, true, true, true, true, true, true, true, true, true, false, false, false, false, false, false, false, false, false, false, false, false, false, false, false, false, false] (v := ?_) ops_3_10_18 rfl ops_3_10_ns (by kernel_rfl) (by kernel_rfl) (fun _ _ _ h => h) (by rfl) ?y18 (by assumption) ?_
    case y18 =>
      intro w hSw
      try dsimp only at hSw
      go_simp
      try with_reducible rfl
    simp only [List.set_cons_zero, List.set_cons_succ]
    refine take_to 19 77 #[true, true, true, true, true, true, true, true, true, true, true, true, true, true, true, true, true, true, true, true, false, false, false, false, false, false, false, false, false, false, false, false, false, false, false, false] (v := ?_) ops_3_10_19 rfl ops_3_10_ns (by kernel_rfl) (by kernel_rfl) (fun _ _ _ h => h) (by rfl) ?y19 (by assumption) ?_
    case y19 =>
      intro w hSw
      try dsimp only at hSw
      go_simp
      try with_reducible rfl
    simp only [List.set_cons_zero, List.set_cons_succ]
    refine take_to 20 78 #[true, true, true, true, true, true, true, true, true, true, true, true, true, true, true, true, true, true, true, true, true, false, false, false, false, false, false, false, false, false, false, false, false, false, false, false] (v := ?_) ops_3_10_20 rfl ops_3_10_ns (by kernel_rfl) (by kernel_rfl) (fun _ _ _ h => h) (by rfl) ?y20 (by assumption) ?_
    case y20 =>
      intro w hSw
      try dsimp only at hSw
      go_simp
      try with_reducible rfl
    simp only [List.set_cons_zero, List.set_cons_succ]
    refine take_to 21 79 #[true, true, true, true, true, true, true, true, true, true, true, true, true, true, true, true, true, true, true, true, true, true, false, false, false, false, false, false, false, false, false, false, false, false, false, false] (v := ?_) ops_3_10_21 rfl ops_3_10_ns (by kernel_rfl) (by kernel_rfl) (fun _ _ _ h => h) (by rfl) ?y21 (by assumption) ?_
    case y21 =>
      intro w hSw
      try dsimp only at hSw
      go_simp
      try with_reducible rfl
    simp only [List.set_cons_zero, List.set_cons_succ]
    refine take_to 22 80 #[true, true, true, true, true, true, true, true, true, true, true, true, true, true, true, true, true, true, true, true, true, true, true, false, false, false, false, false, false, false, false, false, false, false, false, false] (v := ?_) ops_3_10_22 rfl ops_3_10_ns (by kernel_rfl) (by kernel_rfl) (fun _ _ _ h => h) (by rfl) ?y22 (by assumption) ?_
    case y22 =>
      intro w hSw
      try dsimp only at hSw
      go_simp
      try with_reducible rfl
    simp only [List.set_cons_zero, List.set_cons_succ]
    refine take_to 23 81 #[true, true, true, true, true, true, true, true, true, true, true, true, true, true, true, true, true, true, true, true, true, true, true, true, false, false, false, false, false, false, false, false, false, false, false, false] (v := ?_) ops_3_10_23 rfl ops_3_10_ns (by kernel_rfl) (by kernel_rfl) (fun _ _ _ h => h) (by rfl) ?y23 (by assumption) ?_
    case y23 =>
      intro w hSw
      try dsimp only at hSw
      go_simp
      try with_reducible rfl
    simp only [List.set_cons_zero, List.set_cons_succ]
    refine take_to 24 82 #[true, true, true, true, true, true, true, true, true, true, true, true, true, true, true, true, true, true, true, true, true, true, true, true, true, false, false, false, false, false, false, false, false, false, false, false] (v := ?_) ops_3_10_24 rfl ops_3_10_ns (by kernel_rfl) (by kernel_rfl) (fun _ _ _ h => h) (by rfl) ?y24 (by assumption) ?_
    case y24 =>
      intro w hSw
      try dsimp only at hSw
      go_simp
      try with_reducible rfl
    simp only [List.set_cons_zero, List.set_cons_succ]
    refine take_to 25 83 #[true, true, true, true, true, true, true, true, true, true, true, true, true, true, true, true, true, true, true, true, true, true, true, true, true, true, false, false, false, false, false, false, false, false, false, false] (v := ?_) ops_3_10_25 rfl ops_3_10_ns (by kernel_rfl) (by kernel_rfl) (fun _ _ _ h => h) (by rfl) ?y25 (by assumption) ?_
    case y25 =>
      intro w hSw
      try dsimp only at hSw
      go_simp
      try with_reducible rfl
    simp only [List.set_cons_zero, List.set_cons_succ]
    refine take_to 26 84 #[true, true, true, true, true, true, true, true, true, true, true, true, true, true, true, true, true, true, true, true, true, true, true, true, true, true, true, false, false, false, false, false, false, false, false, false] (v := ?_) ops_3_10_26 rfl ops_3_10_ns (by kernel_rfl) (by kernel_rfl) (fun _ _ _ h => h) (by rfl) ?y26 (by assumption) ?_
    case y26 =>
      intro w hSw
      try dsimp only at hSw
      go_simp
      try with_reducible rfl
    simp only [List.set_cons_zero, List.set_cons_succ]
    refine take_to 27 85 #[true, true, true, true, true, true, true, true, true, true, true, true, true, true, true, true, true, true, true, true, true, true, true, true, true, true, true, true, false, false, false, false, false, false, false, false] (v := ?_) ops_3_10_27 rfl ops_3_10_ns (by kernel_rfl) (by kernel_rfl) (fun _ _ _ h => h) (by rfl) ?y27 (by assumption) ?_
    case y27 =>
      intro w hSw
      try dsimp only at hSw
      go_simp
      try with_reducible rfl
    simp only [List.set_cons_zero, List.set_cons_succ]
    refine take_to 28 86 #[true, true, true, true, true, true, true, true, true, true, true, true, true, true, true, true, true, true, true, true, true, true, true, true, true, true, true, true, true, false, false, false, false, false, false, false] (v := ?_) ops_3_10_28 rfl ops_3_10_ns (by kernel_rfl) (by kernel_rfl) (fun _ _ _ h => h) (by rfl) ?y28 (by assumption) ?_
    case y28 =>
      intro w hSw
      try dsimp only at hSw
      go_simp
      try with_reducible rfl
    simp only [List.set_cons_zero, List.set_cons_succ]
    refine take_to 29 87 #[true, true, true, true, true, true, true, true, true, true, true, true, true, true, true, true, true, true, true, true, true, true, true, true, true, true, true, true, true, true, false, false, false, false, false, false] (v := ?_) ops_3_10_29 rfl ops_3_10_ns (by kernel_rfl) (by kernel_rfl) (fun _ _ _ h => h) (by rfl) ?y29 (by assumption) ?_
    case y29 =>
      intro w hSw
      try dsimp only at hSw
      go_simp
      try with_reducible rfl
    simp only [List.set_cons_zero, List.set_cons_succ]
    refine run_to 30 #[true, true, true, true, true, true, true, true, true, true, true, true, true, true, true, true, true, true, true, true, true, true, true, true, true, true, true, true, true, true, true, false, false, false, false, false] ops_3_10_30 (by kernel_rfl) (by kernel_rfl) (by rfl) (fun K hK => ?_)
    go_simp
    refine (equalPr_calls _ _ _ _ PP PP _ (HY.out.below (below_step Hc7.out hHeld.1)) (HZ.out.below hHeld.1) HPl.out HPl.out).mono ?_
    rintro e w' ⟨rfl, hb'⟩
    rw [decide_eq_true rfl]
    go_wp2_with fail
    refine hK.out _ _ ?_ (fun hHeld => ?_)
    · (exact HG.out _ (by first | assumption | exact hHeld.1 | exact below_step hHeld.1 (by assumption)))
    clear hK K
    try simp only [Act.put, List.setIfInBounds_toArray, List.set_cons_zero, List.set_cons_succ]
    refine take_to 31 89 #[true, true, true, true, true, true, true, true, true, true, true, true, true, true, true, true, true, true, true, true, true, true, true, true, true, true, true, true, true, true, true, true, false, false, false, false] (v := ?_) ops_3_10_31 rfl ops_3_10_ns (by kernel_rfl) (by kernel_rfl) (fun _ _ _ h => h) (by rfl) ?y31 (by assumption) ?_
    case y31 =>
      intro w hSw
      try dsimp only at hSw
      go_simp
      try with_reducible rfl
    simp only [List.set_cons_zero, List.set_cons_succ]
    refine take_to 32 90 #[true, true, true, true, true, true, true, true, true, true, true, true, true, true, true, true, true, true, true, true, true, true, true, true, true, true, true, true, true, true, true, true, true, false, false, false] (v := ?_) ops_3_10_32 rfl ops_3_10_ns (by kernel_rfl) (by kernel_rfl) (fun _ _ _ h => h) (by rfl) ?y32 (by assumption) ?_
    case y32 =>
      intro w hSw
      try dsimp only at hSw
      go_simp
      try with_reducible rfl
    simp only [List.set_cons_zero, List.set_cons_succ]
    refine run_to 33 #[true, true, true, true, true, true, true, true, true, true, true, true, true, true, true, true, true, true, true, true, true, true, true, true, true, true, true, true, true, true, true, true, true, true, false, false] ops_3_10_33 (by kernel_rfl) (by kernel_rfl) (by rfl) (fun K hK => ?_)
    go_simp
    refine (scored_calls _).mono ?_
    rintro e w' ⟨rfl, hb'⟩
    go_wp2_with fail
    refine hK.out _ _ ?_ (fun hHeld => ?_)
    · (exact HG.out _ (by first | assumption | exact hHeld.1 | exact below_step hHeld.1 (by assumption)))
    clear hK K
    try simp only [Act.put, List.setIfInBounds_toArray, List.set_cons_zero, List.set_cons_succ]
    refine take_to 34 92 #[true, true, true, true, true, true, true, true, true, true, true, true, true, true, true, true, true, true, true, true, true, true, true, true, true, true, true, true, true, true, true, true, true, true, true, false] (v := ?_) ops_3_10_34 rfl ops_3_10_ns (by kernel_rfl) (by kernel_rfl) (fun _ _ _ h => h) (by rfl) ?y34 (by assumption) ?_
    case y34 =>
      intro w hSw
      try dsimp only at hSw
      go_simp
      try with_reducible rfl
    simp only [List.set_cons_zero, List.set_cons_succ]
    refine take_to 35 2 #[true, true, true, true, true, true, true, true, true, true, true, true, true, true, true, true, true, true, true, true, true, true, true, true, true, true, true, true, true, true, true, true, true, true, true, true] (v := ?_) ops_3_10_35 rfl ops_3_10_ns (by kernel_rfl) (by kernel_rfl) (fun _ _ _ h => h) (by rfl) ?y35 (by assumption) ?_
    case y35 =>
      intro w hSw
      try dsimp only at hSw
      go_simp
      try with_reducible rfl
    simp only [List.set_cons_zero, List.set_cons_succ]
    refine wpAnyH_done (by kernel_rfl) ?_ _
    have Hq := Lib.hid (below_step HW.out (below_step Hbc.out hHeld.1))
    clear hHeld hb0
    go_wp2_with fail
    go_ret
    exact ⟨rfl, Hq.out⟩
end Go.Proofs.YtfakhapljjbbnaaDoor
