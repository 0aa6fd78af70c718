/- How often something was done, and what a rule gives for it. -/
import Derived.Test.YthlfjfmlmcoihaaGreatMgaq
import Derived.Test.YthlfjfmlmcoihaaGreatMgah
/- CheckLine, and the checks of Total. -/
namespace Go.Proofs.YthlfjfmlmcoihaaGreat
open Go.RowKit

/-- Statistic i of some. -/
def tdAt (ts : List TD) (i : Nat) : TD := ts[i]?.getD ⟨ByteArray.empty, 0⟩
theorem tdAt_some {ts : List TD} {i : Nat} {t : TD} (h : ts[i]? = some t) : tdAt ts i = t := by simp [tdAt, h]
/-- What is wrong with statistic i. -/
def tdF (ts : List TD) (i : Nat) : Int := firstE [unlessE (keyB (tdAt ts i).name) 5, unlessE (betwB (tdAt ts i).count (-100000) 100000) 1, unlessE (decide (i = 0) || ltS (tdAt ts (i - 1)).name (tdAt ts i).name) 7]
theorem nums3' (w : World) (T : Nat) (a b c : Int) : NumsAt (w.alloc (.cells #[.int .i64 a, .int .i64 b, .int .i64 c] T)) w.heap.size 0 [a, b, c] := by
  intro i x hx
  rw [World.cell?_alloc_at _ _ _ _ rfl]
  match i, hx with
  | 0, hx => simp at hx; subst hx; rfl
  | 1, hx => simp at hx; subst hx; rfl
  | 2, hx => simp at hx; subst hx; rfl
theorem nums4'' (w : World) (T : Nat) (a b c d : Int) : NumsAt (w.alloc (.cells #[.int .i64 a, .int .i64 b, .int .i64 c, .int .i64 d] T)) w.heap.size 0 [a, b, c, d] := by
  intro i x hx
  rw [World.cell?_alloc_at _ _ _ _ rfl]
  match i, hx with
  | 0, hx => simp at hx; subst hx; rfl
  | 1, hx => simp at hx; subst hx; rfl
  | 2, hx => simp at hx; subst hx; rfl
  | 3, hx => simp at hx; subst hx; rfl
def ops_149_2 : Array Go.Oper := #[
  { dst := some 10, op := Go.Op.fieldAddr 122 (Go.Operand.tmp 4) 0, type := 0, pos := "score.go:22", after := #[], guard := none },
  { dst := some 11, op := Go.Op.load 9 (Go.Operand.tmp 10), type := 9, pos := "score.go:22", after := #[{ on := 0, ground := Go.Ground.data }], guard := none },
  { dst := some 12, op := Go.Op.call { callee := Go.Callee.value (Go.Operand.func 78), args := #[Go.Operand.tmp 11], argTypes := #[9] }, type := 4, pos := "score.go:23", after := #[{ on := 1, ground := Go.Ground.data }], guard := none },
  { dst := some 13, op := Go.Op.call { callee := Go.Callee.value (Go.Operand.func 54), args := #[Go.Operand.tmp 12, Go.Operand.const (Go.Value.int Go.IntKind.i64 5)], argTypes := #[4, 35] }, type := 35, pos := "score.go:23", after := #[{ on := 2, ground := Go.Ground.data }, { on := 2, ground := Go.Ground.chain }], guard := none },
  { dst := some 14, op := Go.Op.fieldAddr 122 (Go.Operand.tmp 4) 1, type := 0, pos := "score.go:22", after := #[], guard := none },
  { dst := some 15, op := Go.Op.load 3 (Go.Operand.tmp 14), type := 3, pos := "score.go:22", after := #[{ on := 4, ground := Go.Ground.data }], guard := none },
  { dst := some 16, op := Go.Op.call { callee := Go.Callee.value (Go.Operand.func 127), args := #[Go.Operand.tmp 15, Go.Operand.const (Go.Value.int Go.IntKind.i64 (-100000)), Go.Operand.const (Go.Value.int Go.IntKind.i64 100000)], argTypes := #[3, 3, 3] }, type := 4, pos := "score.go:24", after := #[{ on := 5, ground := Go.Ground.data }, { on := 3, ground := Go.Ground.chain }], guard := none },
  { dst := some 17, op := Go.Op.call { callee := Go.Callee.value (Go.Operand.func 54), args := #[Go.Operand.tmp 16, Go.Operand.const (Go.Value.int Go.IntKind.i64 1)], argTypes := #[4, 35] }, type := 35, pos := "score.go:24", after := #[{ on := 6, ground := Go.Ground.data }, { on := 6, ground := Go.Ground.chain }], guard := none },
  { dst := some 18, op := Go.Op.move (Go.Operand.tmp 0), type := 3, pos := "score.go:22", after := #[], guard := none },
  { dst := some 19, op := Go.Op.binOp Go.BinOp.eql 3 (Go.Operand.tmp 18) (Go.Operand.const (Go.Value.int Go.IntKind.i64 0)) 3, type := 4, pos := "score.go:22", after := #[{ on := 8, ground := Go.Ground.data }], guard := none },
  { dst := some 20, op := Go.Op.move (Go.Operand.tmp 19), type := 4, pos := "score.go:22", after := #[{ on := 9, ground := Go.Ground.data }, { on := 7, ground := Go.Ground.chain }], guard := none },
  { dst := some 21, op := Go.Op.fieldAddr 125 (Go.Operand.tmp 1) 2, type := 0, pos := "score.go:22", after := #[{ on := 10, ground := Go.Ground.guard }], guard := some (10, false) },
  { dst := some 22, op := Go.Op.load 123 (Go.Operand.tmp 21), type := 123, pos := "score.go:22", after := #[{ on := 11, ground := Go.Ground.data }, { on := 10, ground := Go.Ground.guard }], guard := some (10, false) },
  { dst := some 23, op := Go.Op.move (Go.Operand.tmp 0), type := 3, pos := "score.go:22", after := #[{ on := 10, ground := Go.Ground.guard }], guard := some (10, false) },
  { dst := some 24, op := Go.Op.binOp Go.BinOp.sub 3 (Go.Operand.tmp 23) (Go.Operand.const (Go.Value.int Go.IntKind.i64 1)) 3, type := 3, pos := "score.go:22", after := #[{ on := 13, ground := Go.Ground.data }, { on := 10, ground := Go.Ground.guard }], guard := some (10, false) },
  { dst := some 25, op := Go.Op.indexAddr 123 (Go.Operand.tmp 22) (Go.Operand.tmp 24), type := 0, pos := "score.go:22", after := #[{ on := 12, ground := Go.Ground.data }, { on := 14, ground := Go.Ground.data }, { on := 10, ground := Go.Ground.guard }], guard := some (10, false) },
  { dst := some 26, op := Go.Op.fieldAddr 122 (Go.Operand.tmp 25) 0, type := 0, pos := "score.go:22", after := #[{ on := 15, ground := Go.Ground.data }, { on := 10, ground := Go.Ground.guard }], guard := some (10, false) },
  { dst := some 27, op := Go.Op.load 9 (Go.Operand.tmp 26), type := 9, pos := "score.go:22", after := #[{ on := 16, ground := Go.Ground.data }, { on := 10, ground := Go.Ground.guard }], guard := some (10, false) },
  { dst := some 28, op := Go.Op.fieldAddr 122 (Go.Operand.tmp 4) 0, type := 0, pos := "score.go:22", after := #[{ on := 10, ground := Go.Ground.guard }], guard := some (10, false) },
  { dst := some 29, op := Go.Op.load 9 (Go.Operand.tmp 28), type := 9, pos := "score.go:22", after := #[{ on := 18, ground := Go.Ground.data }, { on := 10, ground := Go.Ground.guard }], guard := some (10, false) },
  { dst := some 30, op := Go.Op.binOp Go.BinOp.lss 9 (Go.Operand.tmp 27) (Go.Operand.tmp 29) 9, type := 4, pos := "score.go:22", after := #[{ on := 17, ground := Go.Ground.data }, { on := 19, ground := Go.Ground.data }, { on := 10, ground := Go.Ground.guard }], guard := some (10, false) },
  { dst := some 31, op := Go.Op.pick (Go.Operand.tmp 20) (Go.Operand.const (Go.Value.bool true)) (Go.Operand.tmp 30), type := 4, pos := "score.go:22", after := #[{ on := 10, ground := Go.Ground.data }, { on := 20, ground := Go.Ground.data }], guard := none },
  { dst := some 32, op := Go.Op.call { callee := Go.Callee.value (Go.Operand.func 54), args := #[Go.Operand.tmp 31, Go.Operand.const (Go.Value.int Go.IntKind.i64 7)], argTypes := #[4, 35] }, type := 35, pos := "score.go:25", after := #[{ on := 21, ground := Go.Ground.data }, { on := 10, ground := Go.Ground.chain }], guard := none },
  { dst := some 33, op := Go.Op.buildSlice 95 3 #[(0, Go.Operand.tmp 13), (1, Go.Operand.tmp 17), (2, Go.Operand.tmp 32)], type := 95, pos := "score.go:22", after := #[{ on := 3, ground := Go.Ground.data }, { on := 7, ground := Go.Ground.data }, { on := 22, ground := Go.Ground.data }], guard := none },
  { dst := some 34, op := Go.Op.call { callee := Go.Callee.value (Go.Operand.func 53), args := #[Go.Operand.tmp 33], argTypes := #[95] }, type := 35, pos := "score.go:22", after := #[{ on := 23, ground := Go.Ground.data }, { on := 22, ground := Go.Ground.chain }], guard := none },
  { dst := some 3, op := Go.Op.assign (Go.Operand.tmp 34), type := 35, pos := "score.go:22", after := #[{ on := 24, ground := Go.Ground.data }, { on := 24, ground := Go.Ground.chain }, { on := 0, ground := Go.Ground.phase }, { on := 1, ground := Go.Ground.phase }, { on := 2, ground := Go.Ground.phase }, { on := 3, ground := Go.Ground.phase }, { on := 4, ground := Go.Ground.phase }, { on := 5, ground := Go.Ground.phase }, { on := 6, ground := Go.Ground.phase }, { on := 7, ground := Go.Ground.phase }, { on := 8, ground := Go.Ground.phase }, { on := 9, ground := Go.Ground.phase }, { on := 10, ground := Go.Ground.phase }, { on := 11, ground := Go.Ground.phase }, { on := 12, ground := Go.Ground.phase }, { on := 13, ground := Go.Ground.phase }, { on := 14, ground := Go.Ground.phase }, { on := 15, ground := Go.Ground.phase }, { on := 16, ground := Go.Ground.phase }, { on := 17, ground := Go.Ground.phase }, { on := 18, ground := Go.Ground.phase }, { on := 19, ground := Go.Ground.phase }, { on := 20, ground := Go.Ground.phase }, { on := 21, ground := Go.Ground.phase }, { on := 22, ground := Go.Ground.phase }, { on := 23, ground := Go.Ground.phase }, { on := 24, ground := Go.Ground.phase }], guard := none }]
theorem ops_149_2_0 : ops_149_2[0]? = some ({ dst := some 10, op := Go.Op.fieldAddr 122 (Go.Operand.tmp 4) 0, type := 0, pos := "score.go:22", after := #[], guard := none } : Go.Oper) := rfl
theorem ops_149_2_1 : ops_149_2[1]? = some ({ dst := some 11, op := Go.Op.load 9 (Go.Operand.tmp 10), type := 9, pos := "score.go:22", after := #[{ on := 0, ground := Go.Ground.data }], guard := none } : Go.Oper) := rfl
theorem ops_149_2_2 : ops_149_2[2]? = some ({ dst := some 12, op := Go.Op.call { callee := Go.Callee.value (Go.Operand.func 78), args := #[Go.Operand.tmp 11], argTypes := #[9] }, type := 4, pos := "score.go:23", after := #[{ on := 1, ground := Go.Ground.data }], guard := none } : Go.Oper) := rfl
theorem ops_149_2_3 : ops_149_2[3]? = some ({ dst := some 13, op := Go.Op.call { callee := Go.Callee.value (Go.Operand.func 54), args := #[Go.Operand.tmp 12, Go.Operand.const (Go.Value.int Go.IntKind.i64 5)], argTypes := #[4, 35] }, type := 35, pos := "score.go:23", after := #[{ on := 2, ground := Go.Ground.data }, { on := 2, ground := Go.Ground.chain }], guard := none } : Go.Oper) := rfl
theorem ops_149_2_4 : ops_149_2[4]? = some ({ dst := some 14, op := Go.Op.fieldAddr 122 (Go.Operand.tmp 4) 1, type := 0, pos := "score.go:22", after := #[], guard := none } : Go.Oper) := rfl
theorem ops_149_2_5 : ops_149_2[5]? = some ({ dst := some 15, op := Go.Op.load 3 (Go.Operand.tmp 14), type := 3, pos := "score.go:22", after := #[{ on := 4, ground := Go.Ground.data }], guard := none } : Go.Oper) := rfl
theorem ops_149_2_6 : ops_149_2[6]? = some ({ dst := some 16, op := Go.Op.call { callee := Go.Callee.value (Go.Operand.func 127), args := #[Go.Operand.tmp 15, Go.Operand.const (Go.Value.int Go.IntKind.i64 (-100000)), Go.Operand.const (Go.Value.int Go.IntKind.i64 100000)], argTypes := #[3, 3, 3] }, type := 4, pos := "score.go:24", after := #[{ on := 5, ground := Go.Ground.data }, { on := 3, ground := Go.Ground.chain }], guard := none } : Go.Oper) := rfl
theorem ops_149_2_7 : ops_149_2[7]? = some ({ dst := some 17, op := Go.Op.call { callee := Go.Callee.value (Go.Operand.func 54), args := #[Go.Operand.tmp 16, Go.Operand.const (Go.Value.int Go.IntKind.i64 1)], argTypes := #[4, 35] }, type := 35, pos := "score.go:24", after := #[{ on := 6, ground := Go.Ground.data }, { on := 6, ground := Go.Ground.chain }], guard := none } : Go.Oper) := rfl
theorem ops_149_2_8 : ops_149_2[8]? = some ({ dst := some 18, op := Go.Op.move (Go.Operand.tmp 0), type := 3, pos := "score.go:22", after := #[], guard := none } : Go.Oper) := rfl
theorem ops_149_2_9 : ops_149_2[9]? = some ({ dst := some 19, op := Go.Op.binOp Go.BinOp.eql 3 (Go.Operand.tmp 18) (Go.Operand.const (Go.Value.int Go.IntKind.i64 0)) 3, type := 4, pos := "score.go:22", after := #[{ on := 8, ground := Go.Ground.data }], guard := none } : Go.Oper) := rfl
theorem ops_149_2_10 : ops_149_2[10]? = some ({ dst := some 20, op := Go.Op.move (Go.Operand.tmp 19), type := 4, pos := "score.go:22", after := #[{ on := 9, ground := Go.Ground.data }, { on := 7, ground := Go.Ground.chain }], guard := none } : Go.Oper) := rfl
theorem ops_149_2_11 : ops_149_2[11]? = some ({ dst := some 21, op := Go.Op.fieldAddr 125 (Go.Operand.tmp 1) 2, type := 0, pos := "score.go:22", after := #[{ on := 10, ground := Go.Ground.guard }], guard := some (10, false) } : Go.Oper) := rfl
theorem ops_149_2_12 : ops_149_2[12]? = some ({ dst := some 22, op := Go.Op.load 123 (Go.Operand.tmp 21), type := 123, pos := "score.go:22", after := #[{ on := 11, ground := Go.Ground.data }, { on := 10, ground := Go.Ground.guard }], guard := some (10, false) } : Go.Oper) := rfl
theorem ops_149_2_13 : ops_149_2[13]? = some ({ dst := some 23, op := Go.Op.move (Go.Operand.tmp 0), type := 3, pos := "score.go:22", after := #[{ on := 10, ground := Go.Ground.guard }], guard := some (10, false) } : Go.Oper) := rfl
theorem ops_149_2_14 : ops_149_2[14]? = some ({ dst := some 24, op := Go.Op.binOp Go.BinOp.sub 3 (Go.Operand.tmp 23) (Go.Operand.const (Go.Value.int Go.IntKind.i64 1)) 3, type := 3, pos := "score.go:22", after := #[{ on := 13, ground := Go.Ground.data }, { on := 10, ground := Go.Ground.guard }], guard := some (10, false) } : Go.Oper) := rfl
theorem ops_149_2_15 : ops_149_2[15]? = some ({ dst := some 25, op := Go.Op.indexAddr 123 (Go.Operand.tmp 22) (Go.Operand.tmp 24), type := 0, pos := "score.go:22", after := #[{ on := 12, ground := Go.Ground.data }, { on := 14, ground := Go.Ground.data }, { on := 10, ground := Go.Ground.guard }], guard := some (10, false) } : Go.Oper) := rfl
theorem ops_149_2_16 : ops_149_2[16]? = some ({ dst := some 26, op := Go.Op.fieldAddr 122 (Go.Operand.tmp 25) 0, type := 0, pos := "score.go:22", after := #[{ on := 15, ground := Go.Ground.data }, { on := 10, ground := Go.Ground.guard }], guard := some (10, false) } : Go.Oper) := rfl
theorem ops_149_2_17 : ops_149_2[17]? = some ({ dst := some 27, op := Go.Op.load 9 (Go.Operand.tmp 26), type := 9, pos := "score.go:22", after := #[{ on := 16, ground := Go.Ground.data }, { on := 10, ground := Go.Ground.guard }], guard := some (10, false) } : Go.Oper) := rfl
theorem ops_149_2_18 : ops_149_2[18]? = some ({ dst := some 28, op := Go.Op.fieldAddr 122 (Go.Operand.tmp 4) 0, type := 0, pos := "score.go:22", after := #[{ on := 10, ground := Go.Ground.guard }], guard := some (10, false) } : Go.Oper) := rfl
theorem ops_149_2_19 : ops_149_2[19]? = some ({ dst := some 29, op := Go.Op.load 9 (Go.Operand.tmp 28), type := 9, pos := "score.go:22", after := #[{ on := 18, ground := Go.Ground.data }, { on := 10, ground := Go.Ground.guard }], guard := some (10, false) } : Go.Oper) := rfl
theorem ops_149_2_20 : ops_149_2[20]? = some ({ dst := some 30, op := Go.Op.binOp Go.BinOp.lss 9 (Go.Operand.tmp 27) (Go.Operand.tmp 29) 9, type := 4, pos := "score.go:22", after := #[{ on := 17, ground := Go.Ground.data }, { on := 19, ground := Go.Ground.data }, { on := 10, ground := Go.Ground.guard }], guard := some (10, false) } : Go.Oper) := rfl
theorem ops_149_2_21 : ops_149_2[21]? = some ({ dst := some 31, op := Go.Op.pick (Go.Operand.tmp 20) (Go.Operand.const (Go.Value.bool true)) (Go.Operand.tmp 30), type := 4, pos := "score.go:22", after := #[{ on := 10, ground := Go.Ground.data }, { on := 20, ground := Go.Ground.data }], guard := none } : Go.Oper) := rfl
theorem ops_149_2_22 : ops_149_2[22]? = some ({ dst := some 32, op := Go.Op.call { callee := Go.Callee.value (Go.Operand.func 54), args := #[Go.Operand.tmp 31, Go.Operand.const (Go.Value.int Go.IntKind.i64 7)], argTypes := #[4, 35] }, type := 35, pos := "score.go:25", after := #[{ on := 21, ground := Go.Ground.data }, { on := 10, ground := Go.Ground.chain }], guard := none } : Go.Oper) := rfl
theorem ops_149_2_23 : ops_149_2[23]? = some ({ dst := some 33, op := Go.Op.buildSlice 95 3 #[(0, Go.Operand.tmp 13), (1, Go.Operand.tmp 17), (2, Go.Operand.tmp 32)], type := 95, pos := "score.go:22", after := #[{ on := 3, ground := Go.Ground.data }, { on := 7, ground := Go.Ground.data }, { on := 22, ground := Go.Ground.data }], guard := none } : Go.Oper) := rfl
theorem ops_149_2_24 : ops_149_2[24]? = some ({ dst := some 34, op := Go.Op.call { callee := Go.Callee.value (Go.Operand.func 53), args := #[Go.Operand.tmp 33], argTypes := #[95] }, type := 35, pos := "score.go:22", after := #[{ on := 23, ground := Go.Ground.data }, { on := 22, ground := Go.Ground.chain }], guard := none } : Go.Oper) := rfl
theorem ops_149_2_25 : ops_149_2[25]? = some ({ dst := some 3, op := Go.Op.assign (Go.Operand.tmp 34), type := 35, pos := "score.go:22", after := #[{ on := 24, ground := Go.Ground.data }, { on := 24, ground := Go.Ground.chain }, { on := 0, ground := Go.Ground.phase }, { on := 1, ground := Go.Ground.phase }, { on := 2, ground := Go.Ground.phase }, { on := 3, ground := Go.Ground.phase }, { on := 4, ground := Go.Ground.phase }, { on := 5, ground := Go.Ground.phase }, { on := 6, ground := Go.Ground.phase }, { on := 7, ground := Go.Ground.phase }, { on := 8, ground := Go.Ground.phase }, { on := 9, ground := Go.Ground.phase }, { on := 10, ground := Go.Ground.phase }, { on := 11, ground := Go.Ground.phase }, { on := 12, ground := Go.Ground.phase }, { on := 13, ground := Go.Ground.phase }, { on := 14, ground := Go.Ground.phase }, { on := 15, ground := Go.Ground.phase }, { on := 16, ground := Go.Ground.phase }, { on := 17, ground := Go.Ground.phase }, { on := 18, ground := Go.Ground.phase }, { on := 19, ground := Go.Ground.phase }, { on := 20, ground := Go.Ground.phase }, { on := 21, ground := Go.Ground.phase }, { on := 22, ground := Go.Ground.phase }, { on := 23, ground := Go.Ground.phase }, { on := 24, ground := Go.Ground.phase }], guard := none } : Go.Oper) := rfl
theorem ops_149_2_ns : Go.Region.noSelect ops_149_2 = true := by kernel_rfl
set_option maxRecDepth 100000 in
set_option maxHeartbeats 8000000 in
theorem checkLine1_calls (c g off cap i lo : Nat) (ts : List TD) (t : TD) (w : World) (hi : ts[i]? = some t) (hs : SmallT t) (hn : ts.length ≤ 1000000)
    (h1 : w.cell? ⟨c, 2, none⟩ = some (.slice (some ⟨g, off, none⟩) ts.length cap)) (hT : Tds w lo (.slice (some ⟨g, off, none⟩) ts.length cap) ts) :
    Calls Tryz.prog 149 #[.int .i64 (i : Int), .pointer (some ⟨c, 0, none⟩)] w (IntBelow (tdF ts i) w) := by
  have hlt : i < ts.length := (List.getElem?_eq_some_iff.1 hi).1
  rcases tds_at hT with ⟨h, _⟩ | ⟨g', off', cap', e, _, _, _, hcell⟩
  · cases h
  simp only [Value.slice.injEq, Option.some.injEq, Addr.mk.injEq, and_true, true_and] at e
  obtain ⟨⟨rfl, rfl⟩, rfl⟩ := e
  obtain ⟨q0, q1⟩ := hcell i t hi
  obtain ⟨W, hW⟩ : ∃ W, W = w.alloc (.cells #[.string t.name, .int .i64 t.count] 122) := ⟨_, rfl⟩
  have hwW : Below w.heap.size w W := by rw [hW]; exact below_alloc w _
  have hx : W.heap[w.heap.size]? = some (.cells #[.string t.name, .int .i64 t.count] 122 (0, 0)) := by rw [hW]; exact heap_alloc_new w _
  have x0 := cell_at hx 0 rfl
  have x1 := cell_at hx 1 rfl
  have c1 := below_cell hwW h1
  have hb0 := (Below.refl W.heap.size W).drew
  obtain ⟨hs1, hs2⟩ := hs
  have HS0 := Lib.hid (show ∀ w', Below W.heap.size W w' → (Below W.heap.size W w' ∧ w'.cell? ⟨c, 2, none⟩ = some (.slice (some ⟨g, off, none⟩) ts.length cap) ∧ w'.cell? ⟨w.heap.size, 0, none⟩ = some (.string t.name) ∧ w'.cell? ⟨w.heap.size, 1, none⟩ = some (.int .i64 t.count)) from fun w' hb => ⟨hb, below_cell hb c1, below_cell hb x0, below_cell hb x1⟩)
  clear hs2 hx
  by_cases hz : i = 0
  · have e0 : ((i : Int) == 0) = true := by rw [beq_iff_eq]; omega
    have HS := HS0
    have Hr := Lib.hid (show tdF ts i = firstE [unlessE (keyB t.name) 5, unlessE (betwB t.count (-100000) 100000) 1, unlessE true 7] by rw [tdF, tdAt_some hi]; simp [hz])
    clear hi hz c1 x0 x1 hT hcell HS0
    go_enter Tryz.func149, Tryz.ntmps149
    go_upto_region 2 with fail
    rw [← hW]
    clear hW
    show Code.wp _ (Code.region 2 ops_149_2 true) _ _ _
    refine region_start 26 (fun w' => Below W.heap.size W w' ∧ w'.cell? ⟨c, 2, none⟩ = some (.slice (some ⟨g, off, none⟩) ts.length cap) ∧ w'.cell? ⟨w.heap.size, 0, none⟩ = some (.string t.name) ∧ w'.cell? ⟨w.heap.size, 1, none⟩ = some (.int .i64 t.count)) (by kernel_rfl) rfl ?_ (fun hHeld => ?_)
    · (exact HS.out _ (by first | assumption | exact hHeld.1 | exact below_step hHeld.1 (by assumption) | exact below_step hHeld.1 (below_alloc _ _)))
    refine take_to 0 10 #[true, false, false, false, false, false, false, false, false, false, false, false, false, false, false, false, false, false, false, false, false, false, false, false, false, false] (v := ?_) ops_149_2_0 rfl ops_149_2_ns (by kernel_rfl) (by kernel_rfl) (fun _ _ _ h => h) (by rfl) ?y0z1 (by assumption) ?_
    case y0z1 =>
      intro w hSw
      try dsimp only at hSw
      go_simp
      try with_reducible rfl
    simp only [List.set_cons_zero, List.set_cons_succ]
    refine take_to 1 11 #[true, true, false, false, false, false, false, false, false, false, false, false, false, false, false, false, false, false, false, false, false, false, false, false, false, false] (v := ?_) ops_149_2_1 rfl ops_149_2_ns (by kernel_rfl) (by kernel_rfl) (fun _ _ _ h => h) (by rfl) ?y1z1 (by assumption) ?_
    case y1z1 =>
      intro w hSw
      try dsimp only at hSw
      go_simp
      try with_reducible rfl
    simp only [List.set_cons_zero, List.set_cons_succ]
    refine take_to 4 14 #[true, true, false, false, true, false, false, false, false, false, false, false, false, false, false, false, false, false, false, false, false, false, false, false, false, false] (v := ?_) ops_149_2_4 rfl ops_149_2_ns (by kernel_rfl) (by kernel_rfl) (fun _ _ _ h => h) (by rfl) ?y4z1 (by assumption) ?_
    case y4z1 =>
      intro w hSw
      try dsimp only at hSw
      go_simp
      try with_reducible rfl
    simp only [List.set_cons_zero, List.set_cons_succ]
    refine take_to 5 15 #[true, true, false, false, true, true, false, false, false, false, false, false, false, false, false, false, false, false, false, false, false, false, false, false, false, false] (v := ?_) ops_149_2_5 rfl ops_149_2_ns (by kernel_rfl) (by kernel_rfl) (fun _ _ _ h => h) (by rfl) ?y5z1 (by assumption) ?_
    case y5z1 =>
      intro w hSw
      try dsimp only at hSw
      go_simp
      try with_reducible rfl
    simp only [List.set_cons_zero, List.set_cons_succ]
    refine take_to 8 18 #[true, true, false, false, true, true, false, false, true, false, false, false, false, false, false, false, false, false, false, false, false, false, false, false, false, false] (v := ?_) ops_149_2_8 rfl ops_149_2_ns (by kernel_rfl) (by kernel_rfl) (fun _ _ _ h => h) (by rfl) ?y8z1 (by assumption) ?_
    case y8z1 =>
      intro w hSw
      try dsimp only at hSw
      go_simp
      try with_reducible rfl
    simp only [List.set_cons_zero, List.set_cons_succ]
    refine take_to 9 19 #[true, true, false, false, true, true, false, false, true, true, false, false, false, false, false, false, false, false, false, false, false, false, false, false, false, false] (v := ?_) ops_149_2_9 rfl ops_149_2_ns (by kernel_rfl) (by kernel_rfl) (fun _ _ _ h => h) (by rfl) ?y9z1 (by assumption) ?_
    case y9z1 =>
      intro w hSw
      try dsimp only at hSw
      go_simp
      try with_reducible rfl
    simp only [List.set_cons_zero, List.set_cons_succ]
    refine run_to 2 #[true, true, true, false, true, true, false, false, true, true, false, false, false, false, false, false, false, false, false, false, false, false, false, false, false, false] ops_149_2_2 (by kernel_rfl) (by kernel_rfl) (by rfl) (fun K hK => ?_)
    go_simp
    refine (key_calls _ _ (by omega)).mono ?_
    rintro e w' ⟨rfl, rfl⟩
    go_wp2_with fail
    refine hK.out _ _ ?_ (fun hHeld => ?_)
    · (exact HS.out _ (by first | assumption | exact hHeld.1 | exact below_step hHeld.1 (by assumption) | exact below_step hHeld.1 (below_alloc _ _)))
    clear hK K
    try simp only [Act.put, List.setIfInBounds_toArray, List.set_cons_zero, List.set_cons_succ]
    refine run_to 3 #[true, true, true, true, true, true, false, false, true, true, false, false, false, false, false, false, false, false, false, false, false, false, false, false, false, false] ops_149_2_3 (by kernel_rfl) (by kernel_rfl) (by rfl) (fun K hK => ?_)
    go_simp
    refine (unless_calls _ _ _).mono ?_
    rintro e w' ⟨rfl, rfl⟩
    go_wp2_with fail
    refine hK.out _ _ ?_ (fun hHeld => ?_)
    · (exact HS.out _ (by first | assumption | exact hHeld.1 | exact below_step hHeld.1 (by assumption) | exact below_step hHeld.1 (below_alloc _ _)))
    clear hK K
    try simp only [Act.put, List.setIfInBounds_toArray, List.set_cons_zero, List.set_cons_succ]
    refine run_to 6 #[true, true, true, true, true, true, true, false, true, true, false, false, false, false, false, false, false, false, false, false, false, false, false, false, false, false] ops_149_2_6 (by kernel_rfl) (by kernel_rfl) (by rfl) (fun K hK => ?_)
    go_simp
    refine (between_calls _ (-100000) 100000 _).mono ?_
    rintro e w' ⟨rfl, rfl⟩
    go_wp2_with fail
    refine hK.out _ _ ?_ (fun hHeld => ?_)
    · (exact HS.out _ (by first | assumption | exact hHeld.1 | exact below_step hHeld.1 (by assumption) | exact below_step hHeld.1 (below_alloc _ _)))
    clear hK K
    try simp only [Act.put, List.setIfInBounds_toArray, List.set_cons_zero, List.set_cons_succ]
    refine run_to 7 #[true, true, true, true, true, true, true, true, true, true, false, false, false, false, false, false, false, false, false, false, false, false, false, false, false, false] ops_149_2_7 (by kernel_rfl) (by kernel_rfl) (by rfl) (fun K hK => ?_)
    go_simp
    refine (unless_calls _ _ _).mono ?_
    rintro e w' ⟨rfl, rfl⟩
    go_wp2_with fail
    refine hK.out _ _ ?_ (fun hHeld => ?_)
    · (exact HS.out _ (by first | assumption | exact hHeld.1 | exact below_step hHeld.1 (by assumption) | exact below_step hHeld.1 (below_alloc _ _)))
    clear hK K
    try simp only [Act.put, List.setIfInBounds_toArray, List.set_cons_zero, List.set_cons_succ]
    refine take_to 10 20 #[true, true, true, true, true, true, true, true, true, true, true, false, false, false, false, false, false, false, false, false, false, false, false, false, false, false] (v := ?_) ops_149_2_10 rfl ops_149_2_ns (by kernel_rfl) (by kernel_rfl) (fun _ _ _ h => h) (by rfl) ?y10z1 (by assumption) ?_
    case y10z1 =>
      intro w hSw
      try dsimp only at hSw
      go_simp
      try with_reducible rfl
    simp only [List.set_cons_zero, List.set_cons_succ]
    refine skip_to 11 21 #[true, true, true, true, true, true, true, true, true, true, true, true, false, false, false, false, false, false, false, false, false, false, false, false, false, false] ops_149_2_11 rfl ops_149_2_ns (by kernel_rfl) (by kernel_rfl) (fun _ _ _ h => h) (by rfl) (by assumption) ?_
    simp only [List.set_cons_zero, List.set_cons_succ]
    refine skip_to 12 22 #[true, true, true, true, true, true, true, true, true, true, true, true, true, false, false, false, false, false, false, false, false, false, false, false, false, false] ops_149_2_12 rfl ops_149_2_ns (by kernel_rfl) (by kernel_rfl) (fun _ _ _ h => h) (by rfl) (by assumption) ?_
    simp only [List.set_cons_zero, List.set_cons_succ]
    refine skip_to 13 23 #[true, true, true, true, true, true, true, true, true, true, true, true, true, true, false, false, false, false, false, false, false, false, false, false, false, false] ops_149_2_13 rfl ops_149_2_ns (by kernel_rfl) (by kernel_rfl) (fun _ _ _ h => h) (by rfl) (by assumption) ?_
    simp only [List.set_cons_zero, List.set_cons_succ]
    refine skip_to 14 24 #[true, true, true, true, true, true, true, true, true, true, true, true, true, true, true, false, false, false, false, false, false, false, false, false, false, false] ops_149_2_14 rfl ops_149_2_ns (by kernel_rfl) (by kernel_rfl) (fun _ _ _ h => h) (by rfl) (by assumption) ?_
    simp only [List.set_cons_zero, List.set_cons_succ]
    refine skip_to 15 25 #[true, true, true, true, true, true, true, true, true, true, true, true, true, true, true, true, false, false, false, false, false, false, false, false, false, false] ops_149_2_15 rfl ops_149_2_ns (by kernel_rfl) (by kernel_rfl) (fun _ _ _ h => h) (by rfl) (by assumption) ?_
    simp only [List.set_cons_zero, List.set_cons_succ]
    refine skip_to 16 26 #[true, true, true, true, true, true, true, true, true, true, true, true, true, true, true, true, true, false, false, false, false, false, false, false, false, false] ops_149_2_16 rfl ops_149_2_ns (by kernel_rfl) (by kernel_rfl) (fun _ _ _ h => h) (by rfl) (by assumption) ?_
    simp only [List.set_cons_zero, List.set_cons_succ]
    refine skip_to 17 27 #[true, true, true, true, true, true, true, true, true, true, true, true, true, true, true, true, true, true, false, false, false, false, false, false, false, false] ops_149_2_17 rfl ops_149_2_ns (by kernel_rfl) (by kernel_rfl) (fun _ _ _ h => h) (by rfl) (by assumption) ?_
    simp only [List.set_cons_zero, List.set_cons_succ]
    refine skip_to 18 28 #[true, true, true, true, true, true, true, true, true, true, true, true, true, true, true, true, true, true, true, false, false, false, false, false, false, false] ops_149_2_18 rfl ops_149_2_ns (by kernel_rfl) (by kernel_rfl) (fun _ _ _ h => h) (by rfl) (by assumption) ?_
    simp only [List.set_cons_zero, List.set_cons_succ]
    refine skip_to 19 29 #[true, true, true, true, true, true, true, true, true, true, true, true, true, true, true, true, true, true, true, true, false, false, false, false, false, false] ops_149_2_19 rfl ops_149_2_ns (by kernel_rfl) (by kernel_rfl) (fun _ _ _ h => h) (by rfl) (by assumption) ?_
    simp only [List.set_cons_zero, List.set_cons_succ]
    refine skip_to 20 30 #[true, true, true, true, true, true, true, true, true, true, true, true, true, true, true, true, true, true, true, true, true, false, false, false, false, false] ops_149_2_20 rfl ops_149_2_ns (by kernel_rfl) (by kernel_rfl) (fun _ _ _ h => h) (by rfl) (by assumption) ?_
    simp only [List.set_cons_zero, List.set_cons_succ]
    refine take_to 21 31 #[true, true, true, true, true, true, true, true, true, true, true, true, true, true, true, true, true, true, true, true, true, true, false, false, false, false] (v := ?_) ops_149_2_21 rfl ops_149_2_ns (by kernel_rfl) (by kernel_rfl) (fun _ _ _ h => h) (by rfl) ?y21z1 (by assumption) ?_
    case y21z1 =>
      intro w hSw
      try dsimp only at hSw
      go_simp
      try with_reducible rfl
    simp only [List.set_cons_zero, List.set_cons_succ]
    refine run_to 22 #[true, true, true, true, true, true, true, true, true, true, true, true, true, true, true, true, true, true, true, true, true, true, true, false, false, false] ops_149_2_22 (by kernel_rfl) (by kernel_rfl) (by rfl) (fun K hK => ?_)
    go_simp
    refine (unless_calls _ _ _).mono ?_
    rintro e w' ⟨rfl, rfl⟩
    go_wp2_with fail
    refine hK.out _ _ ?_ (fun hHeld => ?_)
    · (exact HS.out _ (by first | assumption | exact hHeld.1 | exact below_step hHeld.1 (by assumption) | exact below_step hHeld.1 (below_alloc _ _)))
    clear hK K
    try simp only [Act.put, List.setIfInBounds_toArray, List.set_cons_zero, List.set_cons_succ]
    refine run_to 23 #[true, true, true, true, true, true, true, true, true, true, true, true, true, true, true, true, true, true, true, true, true, true, true, true, false, false] ops_149_2_23 (by kernel_rfl) (by kernel_rfl) (by rfl) (fun K hK => ?_)
    go_simp
    refine hK.out _ _ ?_ (fun hHeld => ?_)
    · (exact HS.out _ (by first | assumption | exact hHeld.1 | exact below_step hHeld.1 (by assumption) | exact below_step hHeld.1 (below_alloc _ _)))
    clear hK K
    try simp only [Act.put, List.setIfInBounds_toArray, List.set_cons_zero, List.set_cons_succ]
    refine run_to 24 #[true, true, true, true, true, true, true, true, true, true, true, true, true, true, true, true, true, true, true, true, true, true, true, true, true, false] ops_149_2_24 (by kernel_rfl) (by kernel_rfl) (by rfl) (fun K hK => ?_)
    go_simp
    refine (orE_calls _ 0 3 [unlessE (keyB t.name) 5, unlessE (betwB t.count (-100000) 100000) 1, unlessE true 7] _ (by simp) (by exact nums3' _ _ _ _ _)).mono ?_
    rintro e w' ⟨rfl, rfl⟩
    go_wp2_with fail
    refine hK.out _ _ ?_ (fun hHeld => ?_)
    · (exact HS.out _ (by first | assumption | exact hHeld.1 | exact below_step hHeld.1 (by assumption) | exact below_step hHeld.1 (below_alloc _ _)))
    clear hK K
    try simp only [Act.put, List.setIfInBounds_toArray, List.set_cons_zero, List.set_cons_succ]
    refine take_to 25 3 #[true, true, true, true, true, true, true, true, true, true, true, true, true, true, true, true, true, true, true, true, true, true, true, true, true, true] (v := ?_) ops_149_2_25 rfl ops_149_2_ns (by kernel_rfl) (by kernel_rfl) (fun _ _ _ h => h) (by rfl) ?y25z1 (by assumption) ?_
    case y25z1 =>
      intro w hSw
      try dsimp only at hSw
      go_simp
      try with_reducible rfl
    simp only [List.set_cons_zero, List.set_cons_succ]
    refine wpAnyH_done (by kernel_rfl) ?_ _
    go_wp2_with fail
    go_ret
    exact ⟨ret_int Hr.out.symm, below_step hwW hHeld.1⟩
  · obtain ⟨sp, hsp⟩ : ∃ sp, ts[i - 1]? = some sp := ⟨_, List.getElem?_eq_getElem (show i - 1 < ts.length by omega)⟩
    obtain ⟨r0, -⟩ := hcell (i - 1) sp hsp
    have r0W := below_cell hwW r0
    have e0 : ((i : Int) == 0) = false := by rw [beq_eq_false_iff_ne]; omega
    have w1 : IntKind.i64.wrap ((i : Int) - 1) = ((i - 1 : Nat) : Int) := by rw [IntWalk.i64_in _ (by omega)]; omega
    have w2 : ((i - 1 : Nat) : Int) < (ts.length : Int) := by omega
    have HS := Lib.hid (show ∀ w', Below W.heap.size W w' → (Below W.heap.size W w' ∧ w'.cell? ⟨c, 2, none⟩ = some (.slice (some ⟨g, off, none⟩) ts.length cap) ∧ w'.cell? ⟨w.heap.size, 0, none⟩ = some (.string t.name) ∧ w'.cell? ⟨w.heap.size, 1, none⟩ = some (.int .i64 t.count) ∧ w'.cell? ⟨g, off + (i - 1) * 2, none⟩ = some (.string sp.name)) from fun w' hb => ⟨hb, below_cell hb c1, below_cell hb x0, below_cell hb x1, below_cell hb r0W⟩)
    have Hr := Lib.hid (show tdF ts i = firstE [unlessE (keyB t.name) 5, unlessE (betwB t.count (-100000) 100000) 1, unlessE (ltS sp.name t.name) 7] by rw [tdF, tdAt_some hi, tdAt_some hsp]; simp [hz])
    clear hi hz c1 x0 x1 hT hcell HS0 r0 r0W hsp
    go_enter Tryz.func149, Tryz.ntmps149
    go_upto_region 2 with fail
    rw [← hW]
    clear hW
    show Code.wp _ (Code.region 2 ops_149_2 true) _ _ _
    refine region_start 26 (fun w' => Below W.heap.size W w' ∧ w'.cell? ⟨c, 2, none⟩ = some (.slice (some ⟨g, off, none⟩) ts.length cap) ∧ w'.cell? ⟨w.heap.size, 0, none⟩ = some (.string t.name) ∧ w'.cell? ⟨w.heap.size, 1, none⟩ = some (.int .i64 t.count) ∧ w'.cell? ⟨g, off + (i - 1) * 2, none⟩ = some (.string sp.name)) (by kernel_rfl) rfl ?_ (fun hHeld => ?_)
    · (exact HS.out _ (by first | assumption | exact hHeld.1 | exact below_step hHeld.1 (by assumption) | exact below_step hHeld.1 (below_alloc _ _)))
    refine take_to 0 10 #[true, false, false, false, false, false, false, false, false, false, false, false, false, false, false, false, false, false, false, false, false, false, false, false, false, false] (v := ?_) ops_149_2_0 rfl ops_149_2_ns (by kernel_rfl) (by kernel_rfl) (fun _ _ _ h => h) (by rfl) ?y0z0 (by assumption) ?_
    case y0z0 =>
      intro w hSw
      try dsimp only at hSw
      go_simp
      try with_reducible rfl
    simp only [List.set_cons_zero, List.set_cons_succ]
    refine take_to 1 11 #[true, true, false, false, false, false, false, false, false, false, false, false, false, false, false, false, false, false, false, false, false, false, false, false, false, false] (v := ?_) ops_149_2_1 rfl ops_149_2_ns (by kernel_rfl) (by kernel_rfl) (fun _ _ _ h => h) (by rfl) ?y1z0 (by assumption) ?_
    case y1z0 =>
      intro w hSw
      try dsimp only at hSw
      go_simp
      try with_reducible rfl
    simp only [List.set_cons_zero, List.set_cons_succ]
    refine take_to 4 14 #[true, true, false, false, true, false, false, false, false, false, false, false, false, false, false, false, false, false, false, false, false, false, false, false, false, false] (v := ?_) ops_149_2_4 rfl ops_149_2_ns (by kernel_rfl) (by kernel_rfl) (fun _ _ _ h => h) (by rfl) ?y4z0 (by assumption) ?_
    case y4z0 =>
      intro w hSw
      try dsimp only at hSw
      go_simp
      try with_reducible rfl
    simp only [List.set_cons_zero, List.set_cons_succ]
    refine take_to 5 15 #[true, true, false, false, true, true, false, false, false, false, false, false, false, false, false, false, false, false, false, false, false, false, false, false, false, false] (v := ?_) ops_149_2_5 rfl ops_149_2_ns (by kernel_rfl) (by kernel_rfl) (fun _ _ _ h => h) (by rfl) ?y5z0 (by assumption) ?_
    case y5z0 =>
      intro w hSw
      try dsimp only at hSw
      go_simp
      try with_reducible rfl
    simp only [List.set_cons_zero, List.set_cons_succ]
    refine take_to 8 18 #[true, true, false, false, true, true, false, false, true, false, false, false, false, false, false, false, false, false, false, false, false, false, false, false, false, false] (v := ?_) ops_149_2_8 rfl ops_149_2_ns (by kernel_rfl) (by kernel_rfl) (fun _ _ _ h => h) (by rfl) ?y8z0 (by assumption) ?_
    case y8z0 =>
      intro w hSw
      try dsimp only at hSw
      go_simp
      try with_reducible rfl
    simp only [List.set_cons_zero, List.set_cons_succ]
    refine take_to 9 19 #[true, true, false, false, true, true, false, false, true, true, false, false, false, false, false, false, false, false, false, false, false, false, false, false, false, false] (v := ?_) ops_149_2_9 rfl ops_149_2_ns (by kernel_rfl) (by kernel_rfl) (fun _ _ _ h => h) (by rfl) ?y9z0 (by assumption) ?_
    case y9z0 =>
      intro w hSw
      try dsimp only at hSw
      go_simp
      try with_reducible rfl
    simp only [List.set_cons_zero, List.set_cons_succ]
    refine run_to 2 #[true, true, true, false, true, true, false, false, true, true, false, false, false, false, false, false, false, false, false, false, false, false, false, false, false, false] ops_149_2_2 (by kernel_rfl) (by kernel_rfl) (by rfl) (fun K hK => ?_)
    go_simp
    refine (key_calls _ _ (by omega)).mono ?_
    rintro e w' ⟨rfl, rfl⟩
    go_wp2_with fail
    refine hK.out _ _ ?_ (fun hHeld => ?_)
    · (exact HS.out _ (by first | assumption | exact hHeld.1 | exact below_step hHeld.1 (by assumption) | exact below_step hHeld.1 (below_alloc _ _)))
    clear hK K
    try simp only [Act.put, List.setIfInBounds_toArray, List.set_cons_zero, List.set_cons_succ]
    refine run_to 3 #[true, true, true, true, true, true, false, false, true, true, false, false, false, false, false, false, false, false, false, false, false, false, false, false, false, false] ops_149_2_3 (by kernel_rfl) (by kernel_rfl) (by rfl) (fun K hK => ?_)
    go_simp
    refine (unless_calls _ _ _).mono ?_
    rintro e w' ⟨rfl, rfl⟩
    go_wp2_with fail
    refine hK.out _ _ ?_ (fun hHeld => ?_)
    · (exact HS.out _ (by first | assumption | exact hHeld.1 | exact below_step hHeld.1 (by assumption) | exact below_step hHeld.1 (below_alloc _ _)))
    clear hK K
    try simp only [Act.put, List.setIfInBounds_toArray, List.set_cons_zero, List.set_cons_succ]
    refine run_to 6 #[true, true, true, true, true, true, true, false, true, true, false, false, false, false, false, false, false, false, false, false, false, false, false, false, false, false] ops_149_2_6 (by kernel_rfl) (by kernel_rfl) (by rfl) (fun K hK => ?_)
    go_simp
    refine (between_calls _ (-100000) 100000 _).mono ?_
    rintro e w' ⟨rfl, rfl⟩
    go_wp2_with fail
    refine hK.out _ _ ?_ (fun hHeld => ?_)
    · (exact HS.out _ (by first | assumption | exact hHeld.1 | exact below_step hHeld.1 (by assumption) | exact below_step hHeld.1 (below_alloc _ _)))
    clear hK K
    try simp only [Act.put, List.setIfInBounds_toArray, List.set_cons_zero, List.set_cons_succ]
    refine run_to 7 #[true, true, true, true, true, true, true, true, true, true, false, false, false, false, false, false, false, false, false, false, false, false, false, false, false, false] ops_149_2_7 (by kernel_rfl) (by kernel_rfl) (by rfl) (fun K hK => ?_)
    go_simp
    refine (unless_calls _ _ _).mono ?_
    rintro e w' ⟨rfl, rfl⟩
    go_wp2_with fail
    refine hK.out _ _ ?_ (fun hHeld => ?_)
    · (exact HS.out _ (by first | assumption | exact hHeld.1 | exact below_step hHeld.1 (by assumption) | exact below_step hHeld.1 (below_alloc _ _)))
    clear hK K
    try simp only [Act.put, List.setIfInBounds_toArray, List.set_cons_zero, List.set_cons_succ]
    refine take_to 10 20 #[true, true, true, true, true, true, true, true, true, true, true, false, false, false, false, false, false, false, false, false, false, false, false, false, false, false] (v := ?_) ops_149_2_10 rfl ops_149_2_ns (by kernel_rfl) (by kernel_rfl) (fun _ _ _ h => h) (by rfl) ?y10z0 (by assumption) ?_
    case y10z0 =>
      intro w hSw
      try dsimp only at hSw
      go_simp
      try with_reducible rfl
    simp only [List.set_cons_zero, List.set_cons_succ]
    refine take_to 11 21 #[true, true, true, true, true, true, true, true, true, true, true, true, false, false, false, false, false, false, false, false, false, false, false, false, false, false] (v := ?_) ops_149_2_11 rfl ops_149_2_ns (by kernel_rfl) (by kernel_rfl) (fun _ _ _ h => h) (by rfl) ?y11z0 (by assumption) ?_
    case y11z0 =>
      intro w hSw
      try dsimp only at hSw
      go_simp
      try with_reducible rfl
    simp only [List.set_cons_zero, List.set_cons_succ]
    refine take_to 12 22 #[true, true, true, true, true, true, true, true, true, true, true, true, true, false, false, false, false, false, false, false, false, false, false, false, false, false] (v := ?_) ops_149_2_12 rfl ops_149_2_ns (by kernel_rfl) (by kernel_rfl) (fun _ _ _ h => h) (by rfl) ?y12z0 (by assumption) ?_
    case y12z0 =>
      intro w hSw
      try dsimp only at hSw
      go_simp
      try with_reducible rfl
    simp only [List.set_cons_zero, List.set_cons_succ]
    refine take_to 13 23 #[true, true, true, true, true, true, true, true, true, true, true, true, true, true, false, false, false, false, false, false, false, false, false, false, false, false] (v := ?_) ops_149_2_13 rfl ops_149_2_ns (by kernel_rfl) (by kernel_rfl) (fun _ _ _ h => h) (by rfl) ?y13z0 (by assumption) ?_
    case y13z0 =>
      intro w hSw
      try dsimp only at hSw
      go_simp
      try with_reducible rfl
    simp only [List.set_cons_zero, List.set_cons_succ]
    refine take_to 14 24 #[true, true, true, true, true, true, true, true, true, true, true, true, true, true, true, false, false, false, false, false, false, false, false, false, false, false] (v := ?_) ops_149_2_14 rfl ops_149_2_ns (by kernel_rfl) (by kernel_rfl) (fun _ _ _ h => h) (by rfl) ?y14z0 (by assumption) ?_
    case y14z0 =>
      intro w hSw
      try dsimp only at hSw
      go_simp
      try with_reducible rfl
    simp only [List.set_cons_zero, List.set_cons_succ]
    refine take_to 15 25 #[true, true, true, true, true, true, true, true, true, true, true, true, true, true, true, true, false, false, false, false, false, false, false, false, false, false] (v := ?_) ops_149_2_15 rfl ops_149_2_ns (by kernel_rfl) (by kernel_rfl) (fun _ _ _ h => h) (by rfl) ?y15z0 (by assumption) ?_
    case y15z0 =>
      intro w hSw
      try dsimp only at hSw
      go_simp
      try with_reducible rfl
    simp only [List.set_cons_zero, List.set_cons_succ]
    refine take_to 16 26 #[true, true, true, true, true, true, true, true, true, true, true, true, true, true, true, true, true, false, false, false, false, false, false, false, false, false] (v := ?_) ops_149_2_16 rfl ops_149_2_ns (by kernel_rfl) (by kernel_rfl) (fun _ _ _ h => h) (by rfl) ?y16z0 (by assumption) ?_
    case y16z0 =>
      intro w hSw
      try dsimp only at hSw
      go_simp
      try with_reducible rfl
    simp only [List.set_cons_zero, List.set_cons_succ]
    refine take_to 17 27 #[true, true, true, true, true, true, true, true, true, true, true, true, true, true, true, true, true, true, false, false, false, false, false, false, false, false] (v := ?_) ops_149_2_17 rfl ops_149_2_ns (by kernel_rfl) (by kernel_rfl) (fun _ _ _ h => h) (by rfl) ?y17z0 (by assumption) ?_
    case y17z0 =>
      intro w hSw
      try dsimp only at hSw
      go_simp
      try with_reducible rfl
    simp only [List.set_cons_zero, List.set_cons_succ]
    refine take_to 18 28 #[true, true, true, true, true, true, true, true, true, true, true, true, true, true, true, true, true, true, true, false, false, false, false, false, false, false] (v := ?_) ops_149_2_18 rfl ops_149_2_ns (by kernel_rfl) (by kernel_rfl) (fun _ _ _ h => h) (by rfl) ?y18z0 (by assumption) ?_
    case y18z0 =>
      intro w hSw
      try dsimp only at hSw
      go_simp
      try with_reducible rfl
    simp only [List.set_cons_zero, List.set_cons_succ]
    refine take_to 19 29 #[true, true, true, true, true, true, true, true, true, true, true, true, true, true, true, true, true, true, true, true, false, false, false, false, false, false] (v := ?_) ops_149_2_19 rfl ops_149_2_ns (by kernel_rfl) (by kernel_rfl) (fun _ _ _ h => h) (by rfl) ?y19z0 (by assumption) ?_
    case y19z0 =>
      intro w hSw
      try dsimp only at hSw
      go_simp
      try with_reducible rfl
    simp only [List.set_cons_zero, List.set_cons_succ]
    refine take_to 20 30 #[true, true, true, true, true, true, true, true, true, true, true, true, true, true, true, true, true, true, true, true, true, false, false, false, false, false] (v := ?_) ops_149_2_20 rfl ops_149_2_ns (by kernel_rfl) (by kernel_rfl) (fun _ _ _ h => h) (by rfl) ?y20z0 (by assumption) ?_
    case y20z0 =>
      intro w hSw
      try dsimp only at hSw
      go_simp
      try with_reducible rfl
    simp only [List.set_cons_zero, List.set_cons_succ]
    refine take_to 21 31 #[true, true, true, true, true, true, true, true, true, true, true, true, true, true, true, true, true, true, true, true, true, true, false, false, false, false] (v := ?_) ops_149_2_21 rfl ops_149_2_ns (by kernel_rfl) (by kernel_rfl) (fun _ _ _ h => h) (by rfl) ?y21z0 (by assumption) ?_
    case y21z0 =>
      intro w hSw
      try dsimp only at hSw
      go_simp
      try with_reducible rfl
    simp only [List.set_cons_zero, List.set_cons_succ]
    refine run_to 22 #[true, true, true, true, true, true, true, true, true, true, true, true, true, true, true, true, true, true, true, true, true, true, true, false, false, false] ops_149_2_22 (by kernel_rfl) (by kernel_rfl) (by rfl) (fun K hK => ?_)
    go_simp
    refine (unless_calls _ _ _).mono ?_
    rintro e w' ⟨rfl, rfl⟩
    go_wp2_with fail
    refine hK.out _ _ ?_ (fun hHeld => ?_)
    · (exact HS.out _ (by first | assumption | exact hHeld.1 | exact below_step hHeld.1 (by assumption) | exact below_step hHeld.1 (below_alloc _ _)))
    clear hK K
    try simp only [Act.put, List.setIfInBounds_toArray, List.set_cons_zero, List.set_cons_succ]
    refine run_to 23 #[true, true, true, true, true, true, true, true, true, true, true, true, true, true, true, true, true, true, true, true, true, true, true, true, false, false] ops_149_2_23 (by kernel_rfl) (by kernel_rfl) (by rfl) (fun K hK => ?_)
    go_simp
    refine hK.out _ _ ?_ (fun hHeld => ?_)
    · (exact HS.out _ (by first | assumption | exact hHeld.1 | exact below_step hHeld.1 (by assumption) | exact below_step hHeld.1 (below_alloc _ _)))
    clear hK K
    try simp only [Act.put, List.setIfInBounds_toArray, List.set_cons_zero, List.set_cons_succ]
    refine run_to 24 #[true, true, true, true, true, true, true, true, true, true, true, true, true, true, true, true, true, true, true, true, true, true, true, true, true, false] ops_149_2_24 (by kernel_rfl) (by kernel_rfl) (by rfl) (fun K hK => ?_)
    go_simp
    refine (orE_calls _ 0 3 [unlessE (keyB t.name) 5, unlessE (betwB t.count (-100000) 100000) 1, unlessE (ltS sp.name t.name) 7] _ (by simp) (by exact nums3' _ _ _ _ _)).mono ?_
    rintro e w' ⟨rfl, rfl⟩
    go_wp2_with fail
    refine hK.out _ _ ?_ (fun hHeld => ?_)
    · (exact HS.out _ (by first | assumption | exact hHeld.1 | exact below_step hHeld.1 (by assumption) | exact below_step hHeld.1 (below_alloc _ _)))
    clear hK K
    try simp only [Act.put, List.setIfInBounds_toArray, List.set_cons_zero, List.set_cons_succ]
    refine take_to 25 3 #[true, true, true, true, true, true, true, true, true, true, true, true, true, true, true, true, true, true, true, true, true, true, true, true, true, true] (v := ?_) ops_149_2_25 rfl ops_149_2_ns (by kernel_rfl) (by kernel_rfl) (fun _ _ _ h => h) (by rfl) ?y25z0 (by assumption) ?_
    case y25z0 =>
      intro w hSw
      try dsimp only at hSw
      go_simp
      try with_reducible rfl
    simp only [List.set_cons_zero, List.set_cons_succ]
    refine wpAnyH_done (by kernel_rfl) ?_ _
    go_wp2_with fail
    go_ret
    exact ⟨ret_int Hr.out.symm, below_step hwW hHeld.1⟩

/-- What is wrong with a line. -/
def lnE (l : LD) : Int := firstE [unlessE (keyB l.player) 5, unlessE (betwB l.week 1 60) 1, eachE l.stats.length 40 (tdF l.stats)]
def ops_130_1 : Array Go.Oper := #[
  { dst := some 3, op := Go.Op.fieldAddr 125 (Go.Operand.tmp 1) 0, type := 0, pos := "score.go:17", after := #[], guard := none },
  { dst := some 4, op := Go.Op.load 9 (Go.Operand.tmp 3), type := 9, pos := "score.go:17", after := #[{ on := 0, ground := Go.Ground.data }], guard := none },
  { dst := some 5, op := Go.Op.call { callee := Go.Callee.value (Go.Operand.func 78), args := #[Go.Operand.tmp 4], argTypes := #[9] }, type := 4, pos := "score.go:18", after := #[{ on := 1, ground := Go.Ground.data }], guard := none },
  { dst := some 6, op := Go.Op.call { callee := Go.Callee.value (Go.Operand.func 54), args := #[Go.Operand.tmp 5, Go.Operand.const (Go.Value.int Go.IntKind.i64 5)], argTypes := #[4, 35] }, type := 35, pos := "score.go:18", after := #[{ on := 2, ground := Go.Ground.data }, { on := 2, ground := Go.Ground.chain }], guard := none },
  { dst := some 7, op := Go.Op.fieldAddr 125 (Go.Operand.tmp 1) 1, type := 0, pos := "score.go:17", after := #[], guard := none },
  { dst := some 8, op := Go.Op.load 3 (Go.Operand.tmp 7), type := 3, pos := "score.go:17", after := #[{ on := 4, ground := Go.Ground.data }], guard := none },
  { dst := some 9, op := Go.Op.call { callee := Go.Callee.value (Go.Operand.func 148), args := #[Go.Operand.tmp 8], argTypes := #[3] }, type := 4, pos := "score.go:19", after := #[{ on := 5, ground := Go.Ground.data }, { on := 3, ground := Go.Ground.chain }], guard := none },
  { dst := some 10, op := Go.Op.call { callee := Go.Callee.value (Go.Operand.func 54), args := #[Go.Operand.tmp 9, Go.Operand.const (Go.Value.int Go.IntKind.i64 1)], argTypes := #[4, 35] }, type := 35, pos := "score.go:19", after := #[{ on := 6, ground := Go.Ground.data }, { on := 6, ground := Go.Ground.chain }], guard := none },
  { dst := some 11, op := Go.Op.fieldAddr 125 (Go.Operand.tmp 1) 2, type := 0, pos := "score.go:17", after := #[], guard := none },
  { dst := some 12, op := Go.Op.load 123 (Go.Operand.tmp 11), type := 123, pos := "score.go:17", after := #[{ on := 8, ground := Go.Ground.data }], guard := none },
  { dst := some 13, op := Go.Op.call { callee := Go.Callee.builtin Go.Builtin.len, args := #[Go.Operand.tmp 12], argTypes := #[123] }, type := 3, pos := "score.go:17", after := #[{ on := 9, ground := Go.Ground.data }], guard := none },
  { dst := some 14, op := Go.Op.makeFunc (Go.Fn.func 149) #[] #[Go.Operand.tmp 1], type := 114, pos := "score.go:17", after := #[], guard := none },
  { dst := some 15, op := Go.Op.call { callee := Go.Callee.value (Go.Operand.func 75), args := #[Go.Operand.tmp 13, Go.Operand.const (Go.Value.int Go.IntKind.i64 40), Go.Operand.tmp 14], argTypes := #[3, 3, 114] }, type := 35, pos := "score.go:20", after := #[{ on := 10, ground := Go.Ground.data }, { on := 11, ground := Go.Ground.data }, { on := 7, ground := Go.Ground.chain }], guard := none },
  { dst := some 16, op := Go.Op.buildSlice 95 3 #[(0, Go.Operand.tmp 6), (1, Go.Operand.tmp 10), (2, Go.Operand.tmp 15)], type := 95, pos := "score.go:17", after := #[{ on := 3, ground := Go.Ground.data }, { on := 7, ground := Go.Ground.data }, { on := 12, ground := Go.Ground.data }], guard := none },
  { dst := some 17, op := Go.Op.call { callee := Go.Callee.value (Go.Operand.func 53), args := #[Go.Operand.tmp 16], argTypes := #[95] }, type := 35, pos := "score.go:17", after := #[{ on := 13, ground := Go.Ground.data }, { on := 12, ground := Go.Ground.chain }], guard := none },
  { dst := some 2, op := Go.Op.assign (Go.Operand.tmp 17), type := 35, pos := "score.go:17", after := #[{ on := 14, ground := Go.Ground.data }, { on := 14, ground := Go.Ground.chain }, { on := 0, ground := Go.Ground.phase }, { on := 1, ground := Go.Ground.phase }, { on := 2, ground := Go.Ground.phase }, { on := 3, ground := Go.Ground.phase }, { on := 4, ground := Go.Ground.phase }, { on := 5, ground := Go.Ground.phase }, { on := 6, ground := Go.Ground.phase }, { on := 7, ground := Go.Ground.phase }, { on := 8, ground := Go.Ground.phase }, { on := 9, ground := Go.Ground.phase }, { on := 10, ground := Go.Ground.phase }, { on := 11, ground := Go.Ground.phase }, { on := 12, ground := Go.Ground.phase }, { on := 13, ground := Go.Ground.phase }, { on := 14, ground := Go.Ground.phase }], guard := none }]
theorem ops_130_1_0 : ops_130_1[0]? = some ({ dst := some 3, op := Go.Op.fieldAddr 125 (Go.Operand.tmp 1) 0, type := 0, pos := "score.go:17", after := #[], guard := none } : Go.Oper) := rfl
theorem ops_130_1_1 : ops_130_1[1]? = some ({ dst := some 4, op := Go.Op.load 9 (Go.Operand.tmp 3), type := 9, pos := "score.go:17", after := #[{ on := 0, ground := Go.Ground.data }], guard := none } : Go.Oper) := rfl
theorem ops_130_1_2 : ops_130_1[2]? = some ({ dst := some 5, op := Go.Op.call { callee := Go.Callee.value (Go.Operand.func 78), args := #[Go.Operand.tmp 4], argTypes := #[9] }, type := 4, pos := "score.go:18", after := #[{ on := 1, ground := Go.Ground.data }], guard := none } : Go.Oper) := rfl
theorem ops_130_1_3 : ops_130_1[3]? = some ({ dst := some 6, op := Go.Op.call { callee := Go.Callee.value (Go.Operand.func 54), args := #[Go.Operand.tmp 5, Go.Operand.const (Go.Value.int Go.IntKind.i64 5)], argTypes := #[4, 35] }, type := 35, pos := "score.go:18", after := #[{ on := 2, ground := Go.Ground.data }, { on := 2, ground := Go.Ground.chain }], guard := none } : Go.Oper) := rfl
theorem ops_130_1_4 : ops_130_1[4]? = some ({ dst := some 7, op := Go.Op.fieldAddr 125 (Go.Operand.tmp 1) 1, type := 0, pos := "score.go:17", after := #[], guard := none } : Go.Oper) := rfl
theorem ops_130_1_5 : ops_130_1[5]? = some ({ dst := some 8, op := Go.Op.load 3 (Go.Operand.tmp 7), type := 3, pos := "score.go:17", after := #[{ on := 4, ground := Go.Ground.data }], guard := none } : Go.Oper) := rfl
theorem ops_130_1_6 : ops_130_1[6]? = some ({ dst := some 9, op := Go.Op.call { callee := Go.Callee.value (Go.Operand.func 148), args := #[Go.Operand.tmp 8], argTypes := #[3] }, type := 4, pos := "score.go:19", after := #[{ on := 5, ground := Go.Ground.data }, { on := 3, ground := Go.Ground.chain }], guard := none } : Go.Oper) := rfl
theorem ops_130_1_7 : ops_130_1[7]? = some ({ dst := some 10, op := Go.Op.call { callee := Go.Callee.value (Go.Operand.func 54), args := #[Go.Operand.tmp 9, Go.Operand.const (Go.Value.int Go.IntKind.i64 1)], argTypes := #[4, 35] }, type := 35, pos := "score.go:19", after := #[{ on := 6, ground := Go.Ground.data }, { on := 6, ground := Go.Ground.chain }], guard := none } : Go.Oper) := rfl
theorem ops_130_1_8 : ops_130_1[8]? = some ({ dst := some 11, op := Go.Op.fieldAddr 125 (Go.Operand.tmp 1) 2, type := 0, pos := "score.go:17", after := #[], guard := none } : Go.Oper) := rfl
theorem ops_130_1_9 : ops_130_1[9]? = some ({ dst := some 12, op := Go.Op.load 123 (Go.Operand.tmp 11), type := 123, pos := "score.go:17", after := #[{ on := 8, ground := Go.Ground.data }], guard := none } : Go.Oper) := rfl
theorem ops_130_1_10 : ops_130_1[10]? = some ({ dst := some 13, op := Go.Op.call { callee := Go.Callee.builtin Go.Builtin.len, args := #[Go.Operand.tmp 12], argTypes := #[123] }, type := 3, pos := "score.go:17", after := #[{ on := 9, ground := Go.Ground.data }], guard := none } : Go.Oper) := rfl
theorem ops_130_1_11 : ops_130_1[11]? = some ({ dst := some 14, op := Go.Op.makeFunc (Go.Fn.func 149) #[] #[Go.Operand.tmp 1], type := 114, pos := "score.go:17", after := #[], guard := none } : Go.Oper) := rfl
theorem ops_130_1_12 : ops_130_1[12]? = some ({ dst := some 15, op := Go.Op.call { callee := Go.Callee.value (Go.Operand.func 75), args := #[Go.Operand.tmp 13, Go.Operand.const (Go.Value.int Go.IntKind.i64 40), Go.Operand.tmp 14], argTypes := #[3, 3, 114] }, type := 35, pos := "score.go:20", after := #[{ on := 10, ground := Go.Ground.data }, { on := 11, ground := Go.Ground.data }, { on := 7, ground := Go.Ground.chain }], guard := none } : Go.Oper) := rfl
theorem ops_130_1_13 : ops_130_1[13]? = some ({ dst := some 16, op := Go.Op.buildSlice 95 3 #[(0, Go.Operand.tmp 6), (1, Go.Operand.tmp 10), (2, Go.Operand.tmp 15)], type := 95, pos := "score.go:17", after := #[{ on := 3, ground := Go.Ground.data }, { on := 7, ground := Go.Ground.data }, { on := 12, ground := Go.Ground.data }], guard := none } : Go.Oper) := rfl
theorem ops_130_1_14 : ops_130_1[14]? = some ({ dst := some 17, op := Go.Op.call { callee := Go.Callee.value (Go.Operand.func 53), args := #[Go.Operand.tmp 16], argTypes := #[95] }, type := 35, pos := "score.go:17", after := #[{ on := 13, ground := Go.Ground.data }, { on := 12, ground := Go.Ground.chain }], guard := none } : Go.Oper) := rfl
theorem ops_130_1_15 : ops_130_1[15]? = some ({ dst := some 2, op := Go.Op.assign (Go.Operand.tmp 17), type := 35, pos := "score.go:17", after := #[{ on := 14, ground := Go.Ground.data }, { on := 14, ground := Go.Ground.chain }, { on := 0, ground := Go.Ground.phase }, { on := 1, ground := Go.Ground.phase }, { on := 2, ground := Go.Ground.phase }, { on := 3, ground := Go.Ground.phase }, { on := 4, ground := Go.Ground.phase }, { on := 5, ground := Go.Ground.phase }, { on := 6, ground := Go.Ground.phase }, { on := 7, ground := Go.Ground.phase }, { on := 8, ground := Go.Ground.phase }, { on := 9, ground := Go.Ground.phase }, { on := 10, ground := Go.Ground.phase }, { on := 11, ground := Go.Ground.phase }, { on := 12, ground := Go.Ground.phase }, { on := 13, ground := Go.Ground.phase }, { on := 14, ground := Go.Ground.phase }], guard := none } : Go.Oper) := rfl
theorem ops_130_1_ns : Go.Region.noSelect ops_130_1 = true := by kernel_rfl
set_option maxRecDepth 100000 in
set_option maxHeartbeats 8000000 in
theorem checkLine_calls (lo : Nat) (l : LD) (x : Value) (w : World) (hT : Tds w lo x l.stats) (hs : SmallL l) : Calls Tryz.prog 130 #[lnV l x] w (IntBelow (lnE l) w) := by
  obtain ⟨sa, sc, rfl⟩ := tds_shape hT
  obtain ⟨W, hW⟩ : ∃ W, W = w.alloc (.cells #[.string l.player, .int .i64 l.week, .slice sa l.stats.length sc] 125) := ⟨_, rfl⟩
  have hwW : Below w.heap.size w W := by rw [hW]; exact below_alloc w _
  have hx : W.heap[w.heap.size]? = some (.cells #[.string l.player, .int .i64 l.week, .slice sa l.stats.length sc] 125 (0, 0)) := by rw [hW]; exact heap_alloc_new w _
  have x0 := cell_at hx 0 rfl
  have x1 := cell_at hx 1 rfl
  have x2 := cell_at hx 2 rfl
  have hTW := hT.below hwW
  have hb0 := (Below.refl W.heap.size W).drew
  obtain ⟨hs1, -, hs3, hs4⟩ := hs
  have Hs4 := Lib.hid hs4
  have HS := Lib.hid (show ∀ w', Below W.heap.size W w' → (Below W.heap.size W w' ∧ w'.cell? ⟨w.heap.size, 0, none⟩ = some (.string l.player) ∧ w'.cell? ⟨w.heap.size, 1, none⟩ = some (.int .i64 l.week) ∧ w'.cell? ⟨w.heap.size, 2, none⟩ = some (.slice sa l.stats.length sc)) from fun w' hb => ⟨hb, below_cell hb x0, below_cell hb x1, below_cell hb x2⟩)
  have hf : ∀ (V W2 : World) (i : Nat), Below W.heap.size W V → i < l.stats.length → Below V.heap.size V W2 → Calls Tryz.prog 149 (#[.int .i64 (i : Int)] ++ #[.pointer (some ⟨w.heap.size, 0, none⟩)]) W2 (IntBelow (tdF l.stats i) W2) := by
    intro V W2 i hV hi hb
    have hbW := below_step hV hb
    obtain ⟨t, ht⟩ : ∃ t, l.stats[i]? = some t := ⟨l.stats[i], List.getElem?_eq_getElem hi⟩
    have hT2 := hTW.below hbW
    have y2 := below_cell hbW x2
    rcases tds_at hT2 with ⟨_, h⟩ | ⟨g, off, cap, e, _⟩
    · rw [h] at hi; simp at hi
    · rw [e] at hT2 y2
      exact checkLine1_calls w.heap.size g off cap i lo l.stats t W2 ht (Hs4.out t (List.mem_of_getElem? ht)) (by omega) y2 hT2
  have Hf := Lib.hid hf
  have hsn : l.stats.length ≤ 1000000 := by omega
  clear hf hT hTW x0 x1 x2 hx hs3 hs4
  unfold lnV
  go_enter Tryz.func130, Tryz.ntmps130
  go_upto_region 1 with fail
  rw [← hW]
  clear hW
  show Code.wp _ (Code.region 1 ops_130_1 true) _ _ _
  refine region_start 16 (fun w' => Below W.heap.size W w' ∧ w'.cell? ⟨w.heap.size, 0, none⟩ = some (.string l.player) ∧ w'.cell? ⟨w.heap.size, 1, none⟩ = some (.int .i64 l.week) ∧ w'.cell? ⟨w.heap.size, 2, none⟩ = some (.slice sa l.stats.length sc)) (by kernel_rfl) rfl ?_ (fun hHeld => ?_)
  · (exact HS.out _ (by first | assumption | exact hHeld.1 | exact below_step hHeld.1 (by assumption) | exact below_step hHeld.1 (below_alloc _ _)))
  refine take_to 0 3 #[true, false, false, false, false, false, false, false, false, false, false, false, false, false, false, false] (v := ?_) ops_130_1_0 rfl ops_130_1_ns (by kernel_rfl) (by kernel_rfl) (fun _ _ _ h => h) (by rfl) ?y0 (by assumption) ?_
  case y0 =>
    intro w hSw
    try dsimp only at hSw
    go_simp
    try with_reducible rfl
  simp only [List.set_cons_zero, List.set_cons_succ]
  refine take_to 1 4 #[true, true, false, false, false, false, false, false, false, false, false, false, false, false, false, false] (v := ?_) ops_130_1_1 rfl ops_130_1_ns (by kernel_rfl) (by kernel_rfl) (fun _ _ _ h => h) (by rfl) ?y1 (by assumption) ?_
  case y1 =>
    intro w hSw
    try dsimp only at hSw
    go_simp
    try with_reducible rfl
  simp only [List.set_cons_zero, List.set_cons_succ]
  refine take_to 4 7 #[true, true, false, false, true, false, false, false, false, false, false, false, false, false, false, false] (v := ?_) ops_130_1_4 rfl ops_130_1_ns (by kernel_rfl) (by kernel_rfl) (fun _ _ _ h => h) (by rfl) ?y4 (by assumption) ?_
  case y4 =>
    intro w hSw
    try dsimp only at hSw
    go_simp
    try with_reducible rfl
  simp only [List.set_cons_zero, List.set_cons_succ]
  refine take_to 5 8 #[true, true, false, false, true, true, false, false, false, false, false, false, false, false, false, false] (v := ?_) ops_130_1_5 rfl ops_130_1_ns (by kernel_rfl) (by kernel_rfl) (fun _ _ _ h => h) (by rfl) ?y5 (by assumption) ?_
  case y5 =>
    intro w hSw
    try dsimp only at hSw
    go_simp
    try with_reducible rfl
  simp only [List.set_cons_zero, List.set_cons_succ]
  refine take_to 8 11 #[true, true, false, false, true, true, false, false, true, false, false, false, false, false, false, false] (v := ?_) ops_130_1_8 rfl ops_130_1_ns (by kernel_rfl) (by kernel_rfl) (fun _ _ _ h => h) (by rfl) ?y8 (by assumption) ?_
  case y8 =>
    intro w hSw
    try dsimp only at hSw
    go_simp
    try with_reducible rfl
  simp only [List.set_cons_zero, List.set_cons_succ]
  refine take_to 9 12 #[true, true, false, false, true, true, false, false, true, true, false, false, false, false, false, false] (v := ?_) ops_130_1_9 rfl ops_130_1_ns (by kernel_rfl) (by kernel_rfl) (fun _ _ _ h => h) (by rfl) ?y9 (by assumption) ?_
  case y9 =>
    intro w hSw
    try dsimp only at hSw
    go_simp
    try with_reducible rfl
  simp only [List.set_cons_zero, List.set_cons_succ]
  refine take_to 10 13 #[true, true, false, false, true, true, false, false, true, true, true, false, false, false, false, false] (v := ?_) ops_130_1_10 rfl ops_130_1_ns (by kernel_rfl) (by kernel_rfl) (fun _ _ _ h => h) (by rfl) ?y10 (by assumption) ?_
  case y10 =>
    intro w hSw
    try dsimp only at hSw
    go_simp
    try with_reducible rfl
  simp only [List.set_cons_zero, List.set_cons_succ]
  refine take_to 11 14 #[true, true, false, false, true, true, false, false, true, true, true, true, false, false, false, false] (v := ?_) ops_130_1_11 rfl ops_130_1_ns (by kernel_rfl) (by kernel_rfl) (fun _ _ _ h => h) (by rfl) ?y11 (by assumption) ?_
  case y11 =>
    intro w hSw
    try dsimp only at hSw
    go_simp
    try with_reducible rfl
  simp only [List.set_cons_zero, List.set_cons_succ]
  refine run_to 2 #[true, true, true, false, true, true, false, false, true, true, true, true, false, false, false, false] ops_130_1_2 (by kernel_rfl) (by kernel_rfl) (by rfl) (fun K hK => ?_)
  go_simp
  refine (key_calls _ _ (by omega)).mono ?_
  rintro e w' ⟨rfl, rfl⟩
  go_wp2_with fail
  refine hK.out _ _ ?_ (fun hHeld => ?_)
  · (exact HS.out _ (by first | assumption | exact hHeld.1 | exact below_step hHeld.1 (by assumption) | exact below_step hHeld.1 (below_alloc _ _)))
  clear hK K
  try simp only [Act.put, List.setIfInBounds_toArray, List.set_cons_zero, List.set_cons_succ]
  refine run_to 3 #[true, true, true, true, true, true, false, false, true, true, true, true, false, false, false, false] ops_130_1_3 (by kernel_rfl) (by kernel_rfl) (by rfl) (fun K hK => ?_)
  go_simp
  refine (unless_calls _ _ _).mono ?_
  rintro e w' ⟨rfl, rfl⟩
  go_wp2_with fail
  refine hK.out _ _ ?_ (fun hHeld => ?_)
  · (exact HS.out _ (by first | assumption | exact hHeld.1 | exact below_step hHeld.1 (by assumption) | exact below_step hHeld.1 (below_alloc _ _)))
  clear hK K
  try simp only [Act.put, List.setIfInBounds_toArray, List.set_cons_zero, List.set_cons_succ]
  refine run_to 6 #[true, true, true, true, true, true, true, false, true, true, true, true, false, false, false, false] ops_130_1_6 (by kernel_rfl) (by kernel_rfl) (by rfl) (fun K hK => ?_)
  go_simp
  refine (week_calls _ _).mono ?_
  rintro e w' ⟨rfl, rfl⟩
  go_wp2_with fail
  refine hK.out _ _ ?_ (fun hHeld => ?_)
  · (exact HS.out _ (by first | assumption | exact hHeld.1 | exact below_step hHeld.1 (by assumption) | exact below_step hHeld.1 (below_alloc _ _)))
  clear hK K
  try simp only [Act.put, List.setIfInBounds_toArray, List.set_cons_zero, List.set_cons_succ]
  refine run_to 7 #[true, true, true, true, true, true, true, true, true, true, true, true, false, false, false, false] ops_130_1_7 (by kernel_rfl) (by kernel_rfl) (by rfl) (fun K hK => ?_)
  go_simp
  refine (unless_calls _ _ _).mono ?_
  rintro e w' ⟨rfl, rfl⟩
  go_wp2_with fail
  refine hK.out _ _ ?_ (fun hHeld => ?_)
  · (exact HS.out _ (by first | assumption | exact hHeld.1 | exact below_step hHeld.1 (by assumption) | exact below_step hHeld.1 (below_alloc _ _)))
  clear hK K
  try simp only [Act.put, List.setIfInBounds_toArray, List.set_cons_zero, List.set_cons_succ]
  refine run_to 12 #[true, true, true, true, true, true, true, true, true, true, true, true, true, false, false, false] ops_130_1_12 (by kernel_rfl) (by kernel_rfl) (by rfl) (fun K hK => ?_)
  go_simp
  refine (each_calls 149 #[.pointer (some ⟨w.heap.size, 0, none⟩)] (enters_of Tryz.func149 (by kernel_rfl) rfl) (tdF l.stats) l.stats.length 40 _ hsn (by exact fun W2 i hi hb => Hf.out _ W2 i hHeld.1 hi hb)).mono ?_
  rintro e w' ⟨rfl, hb⟩
  go_wp2_with fail
  refine hK.out _ _ ?_ (fun hHeld => ?_)
  · (exact HS.out _ (by first | assumption | exact hHeld.1 | exact below_step hHeld.1 (by assumption) | exact below_step hHeld.1 (below_alloc _ _)))
  clear hK K
  try simp only [Act.put, List.setIfInBounds_toArray, List.set_cons_zero, List.set_cons_succ]
  refine run_to 13 #[true, true, true, true, true, true, true, true, true, true, true, true, true, true, false, false] ops_130_1_13 (by kernel_rfl) (by kernel_rfl) (by rfl) (fun K hK => ?_)
  go_simp
  refine hK.out _ _ ?_ (fun hHeld => ?_)
  · (exact HS.out _ (by first | assumption | exact hHeld.1 | exact below_step hHeld.1 (by assumption) | exact below_step hHeld.1 (below_alloc _ _)))
  clear hK K
  try simp only [Act.put, List.setIfInBounds_toArray, List.set_cons_zero, List.set_cons_succ]
  refine run_to 14 #[true, true, true, true, true, true, true, true, true, true, true, true, true, true, true, false] ops_130_1_14 (by kernel_rfl) (by kernel_rfl) (by rfl) (fun K hK => ?_)
  go_simp
  refine (orE_calls _ 0 3 [unlessE (keyB l.player) 5, unlessE (betwB l.week 1 60) 1, eachE l.stats.length 40 (tdF l.stats)] _ (by simp) (by exact nums3' _ _ _ _ _)).mono ?_
  rintro e w' ⟨rfl, rfl⟩
  go_wp2_with fail
  refine hK.out _ _ ?_ (fun hHeld => ?_)
  · (exact HS.out _ (by first | assumption | exact hHeld.1 | exact below_step hHeld.1 (by assumption) | exact below_step hHeld.1 (below_alloc _ _)))
  clear hK K
  try simp only [Act.put, List.setIfInBounds_toArray, List.set_cons_zero, List.set_cons_succ]
  refine take_to 15 2 #[true, true, true, true, true, true, true, true, true, true, true, true, true, true, true, true] (v := ?_) ops_130_1_15 rfl ops_130_1_ns (by kernel_rfl) (by kernel_rfl) (fun _ _ _ h => h) (by rfl) ?y15 (by assumption) ?_
  case y15 =>
    intro w hSw
    try dsimp only at hSw
    go_simp
    try with_reducible rfl
  simp only [List.set_cons_zero, List.set_cons_succ]
  refine wpAnyH_done (by kernel_rfl) ?_ _
  go_wp2_with fail
  go_ret
  exact ⟨rfl, below_step hwW hHeld.1⟩

/-- What is wrong with rules and positions. -/
def wrE (rs : List RD) (ks : List ByteArray) : Int := firstE [chkRl rs, eachE ks.length 10 (risF ks)]
set_option maxRecDepth 100000 in
set_option maxHeartbeats 1000000 in
theorem wrongRules_calls (lo lo' : Nat) (v u : Value) (rs : List RD) (ks : List ByteArray) (w : World) (hR : Rls w lo v rs) (hs : ∀ r ∈ rs, SmallR r) (hn : rs.length ≤ 1000000) (hK : Strs w lo' u ks) (hk : ∀ k ∈ ks, k.size ≤ 1000) (hkn : ks.length ≤ 1000000) :
    Calls Tryz.prog 129 #[v, u] w (IntBelow (wrE rs ks) w) := by
  have C1 := Lib.hid (checkRules_calls lo v rs w hR hs hn)
  have C2 := fun w' (hb : Below w.heap.size w w') => Lib.hid (rising_calls lo' u ks 10 w' (hK.below hb) hk hkn)
  clear hR hs hK hk
  go_enter Tryz.func129, Tryz.ntmps129
  go_wp2_with fail
  refine C1.out.mono ?_
  rintro e w1 ⟨rfl, hb1⟩
  go_wp2_with fail
  refine (C2 w1 hb1).out.mono ?_
  rintro e w2 ⟨rfl, hb2⟩
  go_wp2_with fail
  refine (orE_calls _ 0 2 [chkRl rs, eachE ks.length 10 (risF ks)] _ (by simp) (by exact nums2 _ _ _ _)).mono ?_
  rintro e w3 ⟨rfl, rfl⟩
  go_wp2_with fail
  go_ret
  exact ⟨rfl, below_step (below_step hb1 hb2) (below_alloc _ _)⟩
end Go.Proofs.YthlfjfmlmcoihaaGreat
namespace Go.Proofs.YthlfjfmlmcoihaaGreat
open Go.RowKit

theorem td_of {ps : List ByteArray} {ts : List TD} (h : ∀ i : Nat, ps[i]? = ts[i]?.map TD.name) {i : Nat} (hi : i < ps.length) : ∃ t, ts[i]? = some t := by
  have := h i
  rw [List.getElem?_eq_getElem hi] at this
  cases ht : ts[i]? with
  | none => rw [ht] at this; simp at this
  | some t => exact ⟨t, rfl⟩
set_option maxRecDepth 100000 in
set_option maxHeartbeats 400000 in
theorem find1_calls (t : TD) (who : ByteArray) (w : World) :
    Calls Tryz.prog 176 #[.agg #[.string t.name, .int .i64 t.count], .string who] w (IntBelow (cmpS t.name who) w) := by
  go_enter Tryz.func176, Tryz.ntmps176
  go_wp2_with fail
  refine (strCompare_calls t.name who _).mono ?_
  rintro e w' ⟨rfl, rfl⟩
  rw [cmpS_eq]
  go_wp2_with fail
  go_ret
  exact ⟨rfl, below_alloc w _⟩

set_option maxRecDepth 100000 in
set_option maxHeartbeats 1000000 in
theorem binarySearch_calls (lo : Nat) (who : ByteArray) (v : Value) (ts : List TD) (w : World) (hp : Tds w lo v ts) :
    Calls Tryz.prog 175 #[v, .string who, .func (.func 176) #[] #[]] w (Found (ts.map TD.name) who w) := by
  rcases tds_at hp with ⟨rfl, rfl⟩ | ⟨g, off, cap, rfl, _, hg, hn, hcell⟩
  · clear hp
    go_enter Tryz.func175, Tryz.ntmps175
    go_wp2
    refine wp_loop_rounds 1 ?_
    rw [rounds_succ]
    go_wp2
    go_ret2
    exact ⟨rfl, Below.refl _ _⟩
  · clear hp
    obtain ⟨ps, hps⟩ : ∃ ps, ps = ts.map TD.name := ⟨_, rfl⟩
    have hpl : ts.length = ps.length := by rw [hps]; simp
    have Hpt := Lib.hid (show ∀ i : Nat, ps[i]? = ts[i]?.map TD.name from fun i => by rw [hps]; simp)
    have Hbs := Lib.hid hps
    rw [← hps, hpl]
    rw [hpl] at hn
    clear hps hpl
    go_enter Tryz.func175, Tryz.ntmps175
    go_wp2_with fail
    go_loopw [9, 10] (fun a b wr => ∃ i j : Nat, i ≤ j ∧ j ≤ ps.length ∧ a = .int .i64 i ∧ b = .int .i64 j ∧ Below w.heap.size w wr ∧ Hid (∃ f, bsI ps who = bs ps who f i j ∧ j - i ≤ f)) (fun a b _ => (intOf b).toNat - (intOf a).toNat)
    case atStart => exact ⟨0, ps.length, by omega, by omega, rfl, rfl, Below.refl _ _, Lib.hid ⟨ps.length, rfl, by omega⟩⟩
    case round =>
      obtain ⟨i, j, hij, hj, rfl, rfl, hb, Hf⟩ := hrel
      by_cases hlt : i < j
      · have hh : (i + j) / 2 < ps.length := by omega
        obtain ⟨p, hpt⟩ : ∃ p, ts[(i + j) / 2]? = some p := td_of Hpt.out hh
        have Hk := Lib.hid (show keyAt ps ((i + j) / 2) = p.name from keyAt_some (by rw [Hpt.out, hpt]; rfl))
        obtain ⟨h0, h1⟩ := hcell _ p hpt
        have g0 := below_cell hb h0
        have g1 := below_cell hb h1
        clear hpt h0 h1 hcell
        go_wp2_with fail
        refine (find1_calls p who _).mono ?_
        rintro e w' ⟨rfl, hb'⟩
        have hb2 := hb.trans (hb'.mono hb.size)
        cases hl : ltS p.name who
        · have e1 : decide (cmpS p.name who < 0) = false := by rw [cmpS_neg, hl]
          have Hf' := Lib.hid (show ∃ f, bsI ps who = bs ps who f i ((i + j) / 2) ∧ (i + j) / 2 - i ≤ f by
            obtain ⟨f, h1, h2⟩ := Hf.out
            obtain ⟨f', h3, h4⟩ := bs_right hlt h2 (by rw [Hk.out]; exact hl)
            exact ⟨f', h1.trans h3, h4⟩)
          clear hl
          go_wp2_with fail
          go_roundw
          case rel => exact ⟨i, (i + j) / 2, by omega, by omega, rfl, by go_num, hb2, Hf'⟩
          case measure => simp [intOf]; omega
        · have e1 : decide (cmpS p.name who < 0) = true := by rw [cmpS_neg, hl]
          have Hf' := Lib.hid (show ∃ f, bsI ps who = bs ps who f ((i + j) / 2 + 1) j ∧ j - ((i + j) / 2 + 1) ≤ f by
            obtain ⟨f, h1, h2⟩ := Hf.out
            obtain ⟨f', h3, h4⟩ := bs_left hlt h2 (by rw [Hk.out]; exact hl)
            exact ⟨f', h1.trans h3, h4⟩)
          clear hl
          go_wp2_with fail
          go_roundw
          case rel => exact ⟨(i + j) / 2 + 1, j, by omega, by omega, by go_num, rfl, hb2, Hf'⟩
          case measure => simp [intOf]; omega
      · obtain rfl : i = j := by omega
        have HI := Lib.hid (show bsI ps who = i by
          obtain ⟨f, h1, _⟩ := Hf.out
          rw [h1, bs_end (by omega)])
        clear hlt hij
        by_cases hin : i < ps.length
        · obtain ⟨p, hpt⟩ : ∃ p, ts[i]? = some p := td_of Hpt.out hin
          have Hk := Lib.hid (show keyAt ps i = p.name from keyAt_some (by rw [Hpt.out, hpt]; rfl))
          obtain ⟨h0, h1⟩ := hcell _ p hpt
          have g0 := below_cell hb h0
          have g1 := below_cell hb h1
          clear hpt h0 h1 hcell
          go_wp2_with fail
          refine (find1_calls p who _).mono ?_
          rintro e w' ⟨rfl, hb'⟩
          have hb2 := hb.trans (hb'.mono hb.size)
          have Hq := Lib.hid (show (cmpS p.name who == 0) = knownB ps who by
            unfold knownB
            rw [HI.out, Hk.out]
            simp only [hin, decide_true, Bool.true_and]
            exact cmpS_zero _ _)
          have Hq' := Lib.hid (show (cmpS p.name who == 0) = true ∨ (cmpS p.name who == 0) = false by cases (cmpS p.name who == 0) <;> simp)
          rcases Hq'.out with hq | hq
          · go_wp2_with fail
            go_ret2
            refine ⟨?_, hb2⟩
            rw [HI.out, ← Hq.out, hq]; rfl
          · go_wp2_with fail
            go_ret2
            refine ⟨?_, hb2⟩
            rw [HI.out, ← Hq.out, hq]; rfl
        · have Hq := Lib.hid (show knownB ps who = false by unfold knownB; rw [HI.out]; simp [hin])
          go_wp2_with fail
          go_ret2
          refine ⟨?_, hb⟩
          rw [HI.out, Hq.out]; rfl

/-- How often something was done. -/
def cntB (ts : List TD) (stat : ByteArray) : Int := if knownB (ts.map TD.name) stat then (tdAt ts (bsI (ts.map TD.name) stat)).count else 0
theorem known_lt {ps : List ByteArray} {who : ByteArray} (h : knownB ps who = true) : bsI ps who < ps.length := by
  unfold knownB at h
  rw [Bool.and_eq_true] at h
  simpa using h.1
set_option maxRecDepth 100000 in
set_option maxHeartbeats 1000000 in
theorem count_calls (lo : Nat) (l : LD) (x : Value) (stat : ByteArray) (w : World) (hT : Tds w lo x l.stats) : Calls Tryz.prog 162 #[lnV l x, .string stat] w (IntBelow (cntB l.stats stat) w) := by
  obtain ⟨sa, sc, rfl⟩ := tds_shape hT
  have hb0 := below_alloc w (.cells #[.string l.player, .int .i64 l.week, .slice sa l.stats.length sc] 125)
  have hT1 := hT.below hb0
  have hx := heap_alloc_new w (.cells #[.string l.player, .int .i64 l.week, .slice sa l.stats.length sc] 125)
  have C := Lib.hid (binarySearch_calls lo stat _ l.stats _ hT1)
  clear hT
  unfold lnV
  go_enter Tryz.func162, Tryz.ntmps162
  go_wp2_with fail
  refine C.out.mono ?_
  rintro e w' ⟨rfl, hb⟩
  have hx2 := cells_later hx hb
  have z2 := cell_at hx2 2 rfl
  have hT2 := hT1.below hb
  have Hb := Lib.hid (below_step hb0 hb)
  clear hx hx2 hT1 hb hb0 C
  cases hk : knownB (l.stats.map TD.name) stat
  · have HC := Lib.hid (show cntB l.stats stat = 0 by simp [cntB, hk])
    clear hk hT2
    go_wp2_with fail
    go_ret
    exact ⟨ret_int HC.out.symm, Hb.out⟩
  · have HC := Lib.hid (show cntB l.stats stat = (tdAt l.stats (bsI (l.stats.map TD.name) stat)).count by simp [cntB, hk])
    have hlt : bsI (l.stats.map TD.name) stat < l.stats.length := by simpa using known_lt hk
    generalize bsI (l.stats.map TD.name) stat = q at hlt HC ⊢
    obtain ⟨t, ht⟩ : ∃ t, l.stats[q]? = some t := ⟨_, List.getElem?_eq_getElem hlt⟩
    have HC2 := Lib.hid (show cntB l.stats stat = t.count by rw [HC.out, tdAt_some ht])
    rcases tds_at hT2 with ⟨_, h⟩ | ⟨g, off, cap, e, _, hg, hn, hcell⟩
    · rw [h] at hlt; simp at hlt
    obtain ⟨p0, p1⟩ := hcell q t ht
    rw [e] at z2
    clear hk hT2 hcell HC ht e
    go_wp2_with fail
    go_ret
    exact ⟨ret_int HC2.out.symm, Hb.out⟩

def onceI (b : Bool) : Int := if b then 1 else 0
set_option maxHeartbeats 400000 in
theorem once_calls (b : Bool) (w : World) : Calls Tryz.prog 174 #[.bool b] w fun e w' => e = .returned (.int .i64 (onceI b)) ∧ w = w' := by
  cases b
  · go_enter Tryz.func174, Tryz.ntmps174
    go_wp2
    go_ret
    exact ⟨rfl, rfl⟩
  · go_enter Tryz.func174, Tryz.ntmps174
    go_wp2
    go_ret
    exact ⟨rfl, rfl⟩
/-- How many times a rule gives its Worth. -/
def timesI (kind many n : Int) : Int := if kind = 1 then n else if kind = 2 then (max n 0).tdiv many else if kind = 3 then onceI (decide (many ≤ n)) else onceI (n == 0)
set_option maxRecDepth 100000 in
set_option maxHeartbeats 1000000 in
theorem times_calls (r : RD) (n : Int) (w : World) (hn : Int64 n) (hm : r.kind = 2 → 1 ≤ r.many) : Calls Tryz.prog 161 #[rlV r, .int .i64 n] w fun e w' => e = .returned (.int .i64 (timesI r.kind r.many n)) ∧ Below w.heap.size w w' := by
  have hb := below_alloc w (.cells (rlRow r).toArray 119)
  unfold rlRow at hb
  unfold rlV
  by_cases h1 : r.kind = 1
  · have e1 : (r.kind == 1) = true := by simp [h1]
    have HT := Lib.hid (show timesI r.kind r.many n = n by simp [timesI, h1])
    clear h1 hm
    go_enter Tryz.func161, Tryz.ntmps161
    go_wp2_with fail
    go_ret
    exact ⟨ret_int HT.out.symm, hb⟩
  · have e1 : (r.kind == 1) = false := by simp [h1]
    by_cases h2 : r.kind = 2
    · have e2 : (r.kind == 2) = true := by simp [h2]
      have HT := Lib.hid (show timesI r.kind r.many n = (max n 0).tdiv r.many by simp [timesI, h2])
      have hm1 := hm h2
      have hmx : Int64 (max n 0) := by unfold Int64 at *; omega
      have hq := tdiv_64 hmx (show 0 < r.many by omega)
      obtain ⟨hq1, hq2⟩ := hq
      have hne : r.many ≠ 0 := by omega
      generalize hM : max n 0 = M at HT hq1 hq2
      clear h1 h2 hm hmx hn
      go_enter Tryz.func161, Tryz.ntmps161
      go_wp2_with fail
      go_ret
      exact ⟨ret_int HT.out.symm, hb⟩
    · have e2 : (r.kind == 2) = false := by simp [h2]
      by_cases h3 : r.kind = 3
      · have e3 : (r.kind == 3) = true := by simp [h3]
        have HT := Lib.hid (show timesI r.kind r.many n = onceI (decide (r.many ≤ n)) by simp [timesI, h3])
        clear h1 h2 h3 hm
        go_enter Tryz.func161, Tryz.ntmps161
        go_wp2_with fail
        refine (once_calls _ _).mono ?_
        rintro e w' ⟨rfl, rfl⟩
        go_wp2_with fail
        go_ret
        exact ⟨ret_int HT.out.symm, hb⟩
      · have e3 : (r.kind == 3) = false := by simp [h3]
        have HT := Lib.hid (show timesI r.kind r.many n = onceI (n == 0) by simp [timesI, h1, h2, h3])
        clear h1 h2 h3 hm
        go_enter Tryz.func161, Tryz.ntmps161
        go_wp2_with fail
        refine (once_calls _ _).mono ?_
        rintro e w' ⟨rfl, rfl⟩
        go_wp2_with fail
        go_ret
        exact ⟨ret_int HT.out.symm, hb⟩
end Go.Proofs.YthlfjfmlmcoihaaGreat
