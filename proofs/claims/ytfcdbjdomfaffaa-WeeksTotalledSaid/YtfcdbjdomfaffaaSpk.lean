/- Total. -/
import Derived.Test.YtfcdbjdomfaffaaSph
namespace Go.Proofs.Ytfcdbjdomfaffaa
open Go.RowKit

/-- What is wrong with the arguments of Total. -/
def winE (a b : Int) : Int := unlessE (betwB a 1 b && decide (b ≤ 61)) 1
def totE (rs : List RD) (ks : List ByteArray) (ls : List LD) (a b : Int) : Int := firstE [wrE rs ks, eachE ls.length ls.length (fun i => lnE (lnAt ls i)), eachE ls.length 60 (wkF ls), winE a b]
def inW (a b : Int) (l : LD) : Bool := decide (a ≤ l.week) && decide (l.week < b)
/-- The sum over the lines in the window. -/
def totI (rs : List RD) (ks : List ByteArray) (a b : Int) (ls : List LD) : Int := sumI (ls.map fun l => if inW a b l then ptsI rs ks l.stats else 0)
def totF (rs : List RD) (ks : List ByteArray) (ls : List LD) (a b : Int) : Int × Int := if totE rs ks ls a b = 0 then lowF (totI rs ks a b ls) 100 else (0, 0)
theorem tot_ok {rs : List RD} {ks : List ByteArray} {ls : List LD} {a b : Int} (h : totE rs ks ls a b = 0) : chkRl rs = 0 ∧ (∀ l ∈ ls, lnE l = 0) ∧ ls.length ≤ 60 := by
  refine ⟨firstE_all0 (firstE_all0 h (wrE rs ks) (by simp)) (chkRl rs) (by simp), fun l hl => ?_, ?_⟩
  · obtain ⟨i, hi⟩ := List.getElem?_of_mem hl
    have h1 := (eachE_ok (firstE_all0 h (eachE ls.length ls.length (fun i => lnE (lnAt ls i))) (by simp))).2 i (List.getElem?_eq_some_iff.1 hi).1
    have he : lnAt ls i = l := by simp [lnAt, hi]
    rwa [he] at h1
  · have h1 := (eachE_ok (firstE_all0 h (eachE ls.length 60 (wkF ls)) (by simp))).1
    omega
theorem sum_take {α : Type} (g : α → Int) {l : List α} {k : Nat} {x : α} (h : l[k]? = some x) : sumI ((l.take (k + 1)).map g) = sumI ((l.take k).map g) + g x := by
  rw [List.take_add_one, h, List.map_append]
  exact sumI_snoc _ _
theorem sum_small {α : Type} (g : α → Int) {B : Int} (hB : 0 ≤ B) {l : List α} (h : ∀ x ∈ l, -B ≤ g x ∧ g x ≤ B) : -(B * l.length) ≤ sumI (l.map g) ∧ sumI (l.map g) ≤ B * l.length := by
  induction l with
  | nil => simp [sumI]
  | cons y ys ih =>
    have h1 := h y (by simp)
    have h2 := ih fun x hx => h x (by simp [hx])
    simp only [List.map_cons, sumI, List.length_cons]
    rw [show ((ys.length + 1 : Nat) : Int) = (ys.length : Int) + 1 by omega, Int.mul_add]
    omega
theorem tot_small {rs : List RD} {ks : List ByteArray} {ls : List LD} {a b : Int} (h : totE rs ks ls a b = 0) (k : Nat) : -600000000000000 ≤ sumI ((ls.take k).map fun l => if inW a b l then ptsI rs ks l.stats else 0) ∧ sumI ((ls.take k).map fun l => if inW a b l then ptsI rs ks l.stats else 0) ≤ 600000000000000 := by
  obtain ⟨h1, h2, h3⟩ := tot_ok h
  have h4 := sum_small (fun l : LD => if inW a b l then ptsI rs ks l.stats else 0) (B := 10000000000000) (by omega) (l := ls.take k) fun l hl => by
    have hm := List.mem_of_mem_take hl
    have := pts_bound (ks := ks) (fit_of h1 (h2 l hm)) (rules_ok h1).1
    split <;> omega
  have h5 : (ls.take k).length ≤ 60 := Nat.le_trans (by simp; omega) h3
  omega
def ops_10_1 : Array Go.Oper := #[
  { dst := some 14, op := Go.Op.move (Go.Operand.tmp 0), type := 26, pos := "score.go:67", after := #[], guard := none },
  { dst := some 15, op := Go.Op.move (Go.Operand.tmp 1), type := 28, pos := "score.go:67", after := #[], guard := none },
  { dst := some 16, op := Go.Op.call { callee := Go.Callee.value (Go.Operand.func 26), args := #[Go.Operand.tmp 14, Go.Operand.tmp 15], argTypes := #[26, 28] }, type := 42, pos := "score.go:68", after := #[{ on := 0, ground := Go.Ground.data }, { on := 1, ground := Go.Ground.data }], guard := none },
  { dst := some 17, op := Go.Op.load 30 (Go.Operand.tmp 6), type := 30, pos := "score.go:67", after := #[], guard := none },
  { dst := some 18, op := Go.Op.call { callee := Go.Callee.builtin Go.Builtin.len, args := #[Go.Operand.tmp 17], argTypes := #[30] }, type := 3, pos := "score.go:67", after := #[{ on := 3, ground := Go.Ground.data }], guard := none },
  { dst := some 19, op := Go.Op.load 30 (Go.Operand.tmp 6), type := 30, pos := "score.go:67", after := #[], guard := none },
  { dst := some 20, op := Go.Op.call { callee := Go.Callee.builtin Go.Builtin.len, args := #[Go.Operand.tmp 19], argTypes := #[30] }, type := 3, pos := "score.go:67", after := #[{ on := 5, ground := Go.Ground.data }], guard := none },
  { dst := some 21, op := Go.Op.makeFunc (Go.Fn.func 28) #[] #[Go.Operand.tmp 6], type := 63, pos := "score.go:67", after := #[], guard := none },
  { dst := some 22, op := Go.Op.call { callee := Go.Callee.value (Go.Operand.func 27), args := #[Go.Operand.tmp 18, Go.Operand.tmp 20, Go.Operand.tmp 21], argTypes := #[3, 3, 63] }, type := 42, pos := "score.go:69", after := #[{ on := 4, ground := Go.Ground.data }, { on := 6, ground := Go.Ground.data }, { on := 7, ground := Go.Ground.data }, { on := 2, ground := Go.Ground.chain }], guard := none },
  { dst := some 23, op := Go.Op.load 30 (Go.Operand.tmp 6), type := 30, pos := "score.go:67", after := #[], guard := none },
  { dst := some 24, op := Go.Op.call { callee := Go.Callee.builtin Go.Builtin.len, args := #[Go.Operand.tmp 23], argTypes := #[30] }, type := 3, pos := "score.go:67", after := #[{ on := 9, ground := Go.Ground.data }], guard := none },
  { dst := some 25, op := Go.Op.makeFunc (Go.Fn.func 30) #[] #[Go.Operand.tmp 6], type := 63, pos := "score.go:67", after := #[], guard := none },
  { dst := some 26, op := Go.Op.call { callee := Go.Callee.value (Go.Operand.func 27), args := #[Go.Operand.tmp 24, Go.Operand.const (Go.Value.int Go.IntKind.i64 60), Go.Operand.tmp 25], argTypes := #[3, 3, 63] }, type := 42, pos := "score.go:70", after := #[{ on := 10, ground := Go.Ground.data }, { on := 11, ground := Go.Ground.data }, { on := 8, ground := Go.Ground.chain }], guard := none },
  { dst := some 27, op := Go.Op.fieldAddr 39 (Go.Operand.tmp 7) 0, type := 0, pos := "score.go:67", after := #[], guard := none },
  { dst := some 28, op := Go.Op.load 3 (Go.Operand.tmp 27), type := 3, pos := "score.go:67", after := #[{ on := 13, ground := Go.Ground.data }], guard := none },
  { dst := some 29, op := Go.Op.fieldAddr 39 (Go.Operand.tmp 7) 1, type := 0, pos := "score.go:67", after := #[], guard := none },
  { dst := some 30, op := Go.Op.load 3 (Go.Operand.tmp 29), type := 3, pos := "score.go:67", after := #[{ on := 15, ground := Go.Ground.data }], guard := none },
  { dst := some 31, op := Go.Op.call { callee := Go.Callee.value (Go.Operand.func 32), args := #[Go.Operand.tmp 28, Go.Operand.const (Go.Value.int Go.IntKind.i64 1), Go.Operand.tmp 30], argTypes := #[3, 3, 3] }, type := 4, pos := "score.go:73", after := #[{ on := 14, ground := Go.Ground.data }, { on := 16, ground := Go.Ground.data }, { on := 12, ground := Go.Ground.chain }], guard := none },
  { dst := some 32, op := Go.Op.move (Go.Operand.tmp 31), type := 4, pos := "score.go:67", after := #[{ on := 17, ground := Go.Ground.data }, { on := 17, ground := Go.Ground.chain }], guard := none },
  { dst := some 33, op := Go.Op.fieldAddr 39 (Go.Operand.tmp 7) 1, type := 0, pos := "score.go:67", after := #[{ on := 18, ground := Go.Ground.guard }], guard := some (18, true) },
  { dst := some 34, op := Go.Op.load 3 (Go.Operand.tmp 33), type := 3, pos := "score.go:67", after := #[{ on := 19, ground := Go.Ground.data }, { on := 18, ground := Go.Ground.guard }], guard := some (18, true) },
  { dst := some 35, op := Go.Op.binOp Go.BinOp.leq 3 (Go.Operand.tmp 34) (Go.Operand.const (Go.Value.int Go.IntKind.i64 61)) 3, type := 4, pos := "score.go:67", after := #[{ on := 20, ground := Go.Ground.data }, { on := 18, ground := Go.Ground.guard }], guard := some (18, true) },
  { dst := some 36, op := Go.Op.pick (Go.Operand.tmp 32) (Go.Operand.tmp 35) (Go.Operand.const (Go.Value.bool false)), type := 4, pos := "score.go:67", after := #[{ on := 18, ground := Go.Ground.data }, { on := 21, ground := Go.Ground.data }], guard := none },
  { dst := some 37, op := Go.Op.call { callee := Go.Callee.value (Go.Operand.func 31), args := #[Go.Operand.tmp 36, Go.Operand.const (Go.Value.int Go.IntKind.i64 1)], argTypes := #[4, 42] }, type := 42, pos := "score.go:73", after := #[{ on := 22, ground := Go.Ground.data }, { on := 18, ground := Go.Ground.chain }], guard := none },
  { dst := some 38, op := Go.Op.buildSlice 67 4 #[(0, Go.Operand.tmp 16), (1, Go.Operand.tmp 22), (2, Go.Operand.tmp 26), (3, Go.Operand.tmp 37)], type := 67, pos := "score.go:67", after := #[{ on := 2, ground := Go.Ground.data }, { on := 8, ground := Go.Ground.data }, { on := 12, ground := Go.Ground.data }, { on := 23, ground := Go.Ground.data }], guard := none },
  { dst := some 39, op := Go.Op.call { callee := Go.Callee.value (Go.Operand.func 25), args := #[Go.Operand.tmp 38], argTypes := #[67] }, type := 42, pos := "score.go:67", after := #[{ on := 24, ground := Go.Ground.data }, { on := 23, ground := Go.Ground.chain }], guard := none },
  { dst := some 10, op := Go.Op.assign (Go.Operand.tmp 39), type := 42, pos := "score.go:67", after := #[{ on := 25, ground := Go.Ground.data }, { on := 25, ground := Go.Ground.chain }, { on := 0, ground := Go.Ground.phase }, { on := 1, ground := Go.Ground.phase }, { on := 2, ground := Go.Ground.phase }, { on := 3, ground := Go.Ground.phase }, { on := 4, ground := Go.Ground.phase }, { on := 5, ground := Go.Ground.phase }, { on := 6, ground := Go.Ground.phase }, { on := 7, ground := Go.Ground.phase }, { on := 8, ground := Go.Ground.phase }, { on := 9, ground := Go.Ground.phase }, { on := 10, ground := Go.Ground.phase }, { on := 11, ground := Go.Ground.phase }, { on := 12, ground := Go.Ground.phase }, { on := 13, ground := Go.Ground.phase }, { on := 14, ground := Go.Ground.phase }, { on := 15, ground := Go.Ground.phase }, { on := 16, ground := Go.Ground.phase }, { on := 17, ground := Go.Ground.phase }, { on := 18, ground := Go.Ground.phase }, { on := 19, ground := Go.Ground.phase }, { on := 20, ground := Go.Ground.phase }, { on := 21, ground := Go.Ground.phase }, { on := 22, ground := Go.Ground.phase }, { on := 23, ground := Go.Ground.phase }, { on := 24, ground := Go.Ground.phase }, { on := 25, ground := Go.Ground.phase }], guard := none }]
theorem ops_10_1_0 : ops_10_1[0]? = some ({ dst := some 14, op := Go.Op.move (Go.Operand.tmp 0), type := 26, pos := "score.go:67", after := #[], guard := none } : Go.Oper) := rfl
theorem ops_10_1_1 : ops_10_1[1]? = some ({ dst := some 15, op := Go.Op.move (Go.Operand.tmp 1), type := 28, pos := "score.go:67", after := #[], guard := none } : Go.Oper) := rfl
theorem ops_10_1_2 : ops_10_1[2]? = some ({ dst := some 16, op := Go.Op.call { callee := Go.Callee.value (Go.Operand.func 26), args := #[Go.Operand.tmp 14, Go.Operand.tmp 15], argTypes := #[26, 28] }, type := 42, pos := "score.go:68", after := #[{ on := 0, ground := Go.Ground.data }, { on := 1, ground := Go.Ground.data }], guard := none } : Go.Oper) := rfl
theorem ops_10_1_3 : ops_10_1[3]? = some ({ dst := some 17, op := Go.Op.load 30 (Go.Operand.tmp 6), type := 30, pos := "score.go:67", after := #[], guard := none } : Go.Oper) := rfl
theorem ops_10_1_4 : ops_10_1[4]? = some ({ dst := some 18, op := Go.Op.call { callee := Go.Callee.builtin Go.Builtin.len, args := #[Go.Operand.tmp 17], argTypes := #[30] }, type := 3, pos := "score.go:67", after := #[{ on := 3, ground := Go.Ground.data }], guard := none } : Go.Oper) := rfl
theorem ops_10_1_5 : ops_10_1[5]? = some ({ dst := some 19, op := Go.Op.load 30 (Go.Operand.tmp 6), type := 30, pos := "score.go:67", after := #[], guard := none } : Go.Oper) := rfl
theorem ops_10_1_6 : ops_10_1[6]? = some ({ dst := some 20, op := Go.Op.call { callee := Go.Callee.builtin Go.Builtin.len, args := #[Go.Operand.tmp 19], argTypes := #[30] }, type := 3, pos := "score.go:67", after := #[{ on := 5, ground := Go.Ground.data }], guard := none } : Go.Oper) := rfl
theorem ops_10_1_7 : ops_10_1[7]? = some ({ dst := some 21, op := Go.Op.makeFunc (Go.Fn.func 28) #[] #[Go.Operand.tmp 6], type := 63, pos := "score.go:67", after := #[], guard := none } : Go.Oper) := rfl
theorem ops_10_1_8 : ops_10_1[8]? = some ({ dst := some 22, op := Go.Op.call { callee := Go.Callee.value (Go.Operand.func 27), args := #[Go.Operand.tmp 18, Go.Operand.tmp 20, Go.Operand.tmp 21], argTypes := #[3, 3, 63] }, type := 42, pos := "score.go:69", after := #[{ on := 4, ground := Go.Ground.data }, { on := 6, ground := Go.Ground.data }, { on := 7, ground := Go.Ground.data }, { on := 2, ground := Go.Ground.chain }], guard := none } : Go.Oper) := rfl
theorem ops_10_1_9 : ops_10_1[9]? = some ({ dst := some 23, op := Go.Op.load 30 (Go.Operand.tmp 6), type := 30, pos := "score.go:67", after := #[], guard := none } : Go.Oper) := rfl
theorem ops_10_1_10 : ops_10_1[10]? = some ({ dst := some 24, op := Go.Op.call { callee := Go.Callee.builtin Go.Builtin.len, args := #[Go.Operand.tmp 23], argTypes := #[30] }, type := 3, pos := "score.go:67", after := #[{ on := 9, ground := Go.Ground.data }], guard := none } : Go.Oper) := rfl
theorem ops_10_1_11 : ops_10_1[11]? = some ({ dst := some 25, op := Go.Op.makeFunc (Go.Fn.func 30) #[] #[Go.Operand.tmp 6], type := 63, pos := "score.go:67", after := #[], guard := none } : Go.Oper) := rfl
theorem ops_10_1_12 : ops_10_1[12]? = some ({ dst := some 26, op := Go.Op.call { callee := Go.Callee.value (Go.Operand.func 27), args := #[Go.Operand.tmp 24, Go.Operand.const (Go.Value.int Go.IntKind.i64 60), Go.Operand.tmp 25], argTypes := #[3, 3, 63] }, type := 42, pos := "score.go:70", after := #[{ on := 10, ground := Go.Ground.data }, { on := 11, ground := Go.Ground.data }, { on := 8, ground := Go.Ground.chain }], guard := none } : Go.Oper) := rfl
theorem ops_10_1_13 : ops_10_1[13]? = some ({ dst := some 27, op := Go.Op.fieldAddr 39 (Go.Operand.tmp 7) 0, type := 0, pos := "score.go:67", after := #[], guard := none } : Go.Oper) := rfl
theorem ops_10_1_14 : ops_10_1[14]? = some ({ dst := some 28, op := Go.Op.load 3 (Go.Operand.tmp 27), type := 3, pos := "score.go:67", after := #[{ on := 13, ground := Go.Ground.data }], guard := none } : Go.Oper) := rfl
theorem ops_10_1_15 : ops_10_1[15]? = some ({ dst := some 29, op := Go.Op.fieldAddr 39 (Go.Operand.tmp 7) 1, type := 0, pos := "score.go:67", after := #[], guard := none } : Go.Oper) := rfl
theorem ops_10_1_16 : ops_10_1[16]? = some ({ dst := some 30, op := Go.Op.load 3 (Go.Operand.tmp 29), type := 3, pos := "score.go:67", after := #[{ on := 15, ground := Go.Ground.data }], guard := none } : Go.Oper) := rfl
theorem ops_10_1_17 : ops_10_1[17]? = some ({ dst := some 31, op := Go.Op.call { callee := Go.Callee.value (Go.Operand.func 32), args := #[Go.Operand.tmp 28, Go.Operand.const (Go.Value.int Go.IntKind.i64 1), Go.Operand.tmp 30], argTypes := #[3, 3, 3] }, type := 4, pos := "score.go:73", after := #[{ on := 14, ground := Go.Ground.data }, { on := 16, ground := Go.Ground.data }, { on := 12, ground := Go.Ground.chain }], guard := none } : Go.Oper) := rfl
theorem ops_10_1_18 : ops_10_1[18]? = some ({ dst := some 32, op := Go.Op.move (Go.Operand.tmp 31), type := 4, pos := "score.go:67", after := #[{ on := 17, ground := Go.Ground.data }, { on := 17, ground := Go.Ground.chain }], guard := none } : Go.Oper) := rfl
theorem ops_10_1_19 : ops_10_1[19]? = some ({ dst := some 33, op := Go.Op.fieldAddr 39 (Go.Operand.tmp 7) 1, type := 0, pos := "score.go:67", after := #[{ on := 18, ground := Go.Ground.guard }], guard := some (18, true) } : Go.Oper) := rfl
theorem ops_10_1_20 : ops_10_1[20]? = some ({ dst := some 34, op := Go.Op.load 3 (Go.Operand.tmp 33), type := 3, pos := "score.go:67", after := #[{ on := 19, ground := Go.Ground.data }, { on := 18, ground := Go.Ground.guard }], guard := some (18, true) } : Go.Oper) := rfl
theorem ops_10_1_21 : ops_10_1[21]? = some ({ dst := some 35, op := Go.Op.binOp Go.BinOp.leq 3 (Go.Operand.tmp 34) (Go.Operand.const (Go.Value.int Go.IntKind.i64 61)) 3, type := 4, pos := "score.go:67", after := #[{ on := 20, ground := Go.Ground.data }, { on := 18, ground := Go.Ground.guard }], guard := some (18, true) } : Go.Oper) := rfl
theorem ops_10_1_22 : ops_10_1[22]? = some ({ dst := some 36, op := Go.Op.pick (Go.Operand.tmp 32) (Go.Operand.tmp 35) (Go.Operand.const (Go.Value.bool false)), type := 4, pos := "score.go:67", after := #[{ on := 18, ground := Go.Ground.data }, { on := 21, ground := Go.Ground.data }], guard := none } : Go.Oper) := rfl
theorem ops_10_1_23 : ops_10_1[23]? = some ({ dst := some 37, op := Go.Op.call { callee := Go.Callee.value (Go.Operand.func 31), args := #[Go.Operand.tmp 36, Go.Operand.const (Go.Value.int Go.IntKind.i64 1)], argTypes := #[4, 42] }, type := 42, pos := "score.go:73", after := #[{ on := 22, ground := Go.Ground.data }, { on := 18, ground := Go.Ground.chain }], guard := none } : Go.Oper) := rfl
theorem ops_10_1_24 : ops_10_1[24]? = some ({ dst := some 38, op := Go.Op.buildSlice 67 4 #[(0, Go.Operand.tmp 16), (1, Go.Operand.tmp 22), (2, Go.Operand.tmp 26), (3, Go.Operand.tmp 37)], type := 67, pos := "score.go:67", after := #[{ on := 2, ground := Go.Ground.data }, { on := 8, ground := Go.Ground.data }, { on := 12, ground := Go.Ground.data }, { on := 23, ground := Go.Ground.data }], guard := none } : Go.Oper) := rfl
theorem ops_10_1_25 : ops_10_1[25]? = some ({ dst := some 39, op := Go.Op.call { callee := Go.Callee.value (Go.Operand.func 25), args := #[Go.Operand.tmp 38], argTypes := #[67] }, type := 42, pos := "score.go:67", after := #[{ on := 24, ground := Go.Ground.data }, { on := 23, ground := Go.Ground.chain }], guard := none } : Go.Oper) := rfl
theorem ops_10_1_26 : ops_10_1[26]? = some ({ dst := some 10, op := Go.Op.assign (Go.Operand.tmp 39), type := 42, pos := "score.go:67", after := #[{ on := 25, ground := Go.Ground.data }, { on := 25, ground := Go.Ground.chain }, { on := 0, ground := Go.Ground.phase }, { on := 1, ground := Go.Ground.phase }, { on := 2, ground := Go.Ground.phase }, { on := 3, ground := Go.Ground.phase }, { on := 4, ground := Go.Ground.phase }, { on := 5, ground := Go.Ground.phase }, { on := 6, ground := Go.Ground.phase }, { on := 7, ground := Go.Ground.phase }, { on := 8, ground := Go.Ground.phase }, { on := 9, ground := Go.Ground.phase }, { on := 10, ground := Go.Ground.phase }, { on := 11, ground := Go.Ground.phase }, { on := 12, ground := Go.Ground.phase }, { on := 13, ground := Go.Ground.phase }, { on := 14, ground := Go.Ground.phase }, { on := 15, ground := Go.Ground.phase }, { on := 16, ground := Go.Ground.phase }, { on := 17, ground := Go.Ground.phase }, { on := 18, ground := Go.Ground.phase }, { on := 19, ground := Go.Ground.phase }, { on := 20, ground := Go.Ground.phase }, { on := 21, ground := Go.Ground.phase }, { on := 22, ground := Go.Ground.phase }, { on := 23, ground := Go.Ground.phase }, { on := 24, ground := Go.Ground.phase }, { on := 25, ground := Go.Ground.phase }], guard := none } : Go.Oper) := rfl
theorem ops_10_1_ns : Go.Region.noSelect ops_10_1 = true := by kernel_rfl
set_option maxRecDepth 100000 in
set_option maxHeartbeats 8000000 in
theorem total_calls (lo lo' lo3 : Nat) (v kv x : Value) (rs : List RD) (ks : List ByteArray) (ls : List LD) (a b : Int) (w : World) (hR : Rls w lo v rs) (hs : ∀ r ∈ rs, SmallR r) (hn : rs.length ≤ 1000) (hK : Strs w lo' kv ks) (hk : ∀ k ∈ ks, k.size ≤ 1000) (hkn : ks.length ≤ 1000000) (hL : Lns w lo3 x ls) (hl : ∀ l ∈ ls, SmallL l) (hln : ls.length ≤ 1000) :
    Calls Try.prog 10 #[v, kv, x, .agg #[.int .i64 a, .int .i64 b]] w (TwoIs (totF rs ks ls a b) (totE rs ks ls a b) w) := by
  obtain ⟨ra, rc, rfl⟩ := rls_shape hR
  obtain ⟨ka, kc, rfl⟩ := strs_shape hK
  obtain ⟨xa, xc, rfl⟩ := lns_shape hL
  obtain ⟨W, hW⟩ : ∃ W, W = ((w.alloc (.cells #[.slice xa ls.length xc] 30)).alloc (.cells #[.int .i64 a, .int .i64 b] 39)).alloc (.cells #[.int .i64 0, .int .i64 0] 41) := ⟨_, rfl⟩
  have hwW : Below w.heap.size w W := by rw [hW]; exact ((below_alloc w _).trans ((below_alloc _ _).mono (by simp))).trans ((below_alloc _ _).mono (by simp; omega))
  have hx : W.heap[w.heap.size]? = some (.cells #[.slice xa ls.length xc] 30 (0, 0)) := by rw [hW]; exact heap_al (heap_al (heap_alloc_new w _) _) _
  have hy : W.heap[w.heap.size + 1]? = some (.cells #[.int .i64 a, .int .i64 b] 39 (0, 0)) := by
    rw [hW]; have := heap_al (heap_alloc_new (w.alloc (.cells #[.slice xa ls.length xc] 30)) (.cells #[.int .i64 a, .int .i64 b] 39)) (.cells #[.int .i64 0, .int .i64 0] 41); rwa [World.size_alloc] at this
  have hf : W.heap[w.heap.size + 2]? = some (.cells #[.int .i64 0, .int .i64 0] 41 (0, 0)) := by
    rw [hW]; have := heap_alloc_new ((w.alloc (.cells #[.slice xa ls.length xc] 30)).alloc (.cells #[.int .i64 a, .int .i64 b] 39)) (.cells #[.int .i64 0, .int .i64 0] 41); simpa using this
  have x0 := cell_at hx 0 rfl
  have y0 := cell_at hy 0 rfl
  have y1 := cell_at hy 1 rfl
  have hb0 := (Below.refl W.heap.size W).drew
  have HS := Lib.hid (show ∀ w', Below W.heap.size W w' → (Below W.heap.size W w' ∧ w'.cell? ⟨w.heap.size, 0, none⟩ = some (.slice xa ls.length xc) ∧ w'.cell? ⟨w.heap.size + 1, 0, none⟩ = some (.int .i64 a) ∧ w'.cell? ⟨w.heap.size + 1, 1, none⟩ = some (.int .i64 b)) from fun w' hb => ⟨hb, below_cell hb x0, below_cell hb y0, below_cell hb y1⟩)
  have Hl := Lib.hid hl
  have HLW := Lib.hid (fun w' (hb : Below W.heap.size W w') => hL.below (below_step hwW hb))
  have C1 := Lib.hid (fun w' (hb : Below W.heap.size W w') => wrongRules_calls lo lo' _ _ rs ks w' (hR.below (below_step hwW hb)) hs (by omega) (hK.below (below_step hwW hb)) hk hkn)
  have hf1 : ∀ (V W2 : World) (i : Nat), Below W.heap.size W V → i < ls.length → Below V.heap.size V W2 → Calls Try.prog 28 (#[.int .i64 (i : Int)] ++ #[.pointer (some ⟨w.heap.size, 0, none⟩)]) W2 (IntBelow (lnE (lnAt ls i)) W2) := by
    intro V W2 i hV hi hb
    have hbW := below_step hV hb
    obtain ⟨l, hli⟩ : ∃ l, ls[i]? = some l := ⟨ls[i], List.getElem?_eq_getElem hi⟩
    have h2 := HLW.out W2 hbW
    have y2 := below_cell hbW x0
    rcases lns_at h2 with ⟨_, h⟩ | ⟨g, off, cap, e, _⟩
    · rw [h] at hi; simp at hi
    · rw [e] at h2 y2
      exact total1_calls w.heap.size g off cap i lo3 ls l W2 hli (Hl.out l (List.mem_of_getElem? hli)) (by omega) y2 h2
  have hf2 : ∀ (V W2 : World) (i : Nat), Below W.heap.size W V → i < ls.length → Below V.heap.size V W2 → Calls Try.prog 30 (#[.int .i64 (i : Int)] ++ #[.pointer (some ⟨w.heap.size, 0, none⟩)]) W2 (IntBelow (wkF ls i) W2) := by
    intro V W2 i hV hi hb
    have hbW := below_step hV hb
    obtain ⟨l, hli⟩ : ∃ l, ls[i]? = some l := ⟨ls[i], List.getElem?_eq_getElem hi⟩
    have h2 := HLW.out W2 hbW
    have y2 := below_cell hbW x0
    rcases lns_at h2 with ⟨_, h⟩ | ⟨g, off, cap, e, _⟩
    · rw [h] at hi; simp at hi
    · rw [e] at h2 y2
      exact total2_calls w.heap.size g off cap i lo3 ls l W2 hli (by omega) y2 h2
  have Hf1 := Lib.hid hf1
  have Hf2 := Lib.hid hf2
  have C3 := Lib.hid (fun (h : totE rs ks ls a b = 0) (l : LD) (hm : l ∈ ls) (u : Value) w' (hb : Below W.heap.size W w') (hT : Tds w' lo3 u l.stats) => points_calls lo lo' lo3 _ _ u rs ks l w' (hR.below (below_step hwW hb)) hs hn (fit_of (tot_ok h).1 ((tot_ok h).2.1 l hm)) (hK.below (below_step hwW hb)) hT)
  have HP := Lib.hid (fun (h : totE rs ks ls a b = 0) (l : LD) (hm : l ∈ ls) => pts_bound (ks := ks) (fit_of (tot_ok h).1 ((tot_ok h).2.1 l hm)) (rules_ok (tot_ok h).1).1)
  have HT := Lib.hid (fun (h : totE rs ks ls a b = 0) k => tot_small h k)
  have HF0 := Lib.hid (fun (h : totE rs ks ls a b ≠ 0) => (show totF rs ks ls a b = (0, 0) by unfold totF; rw [if_neg h]))
  have HF1 := Lib.hid (fun (h : totE rs ks ls a b = 0) => (show totF rs ks ls a b = lowF (sumI (ls.map fun l => if inW a b l then ptsI rs ks l.stats else 0)) 100 by unfold totF; rw [if_pos h]; rfl))
  have HE := Lib.hid (show firstE [wrE rs ks, eachE ls.length ls.length (fun i => lnE (lnAt ls i)), eachE ls.length 60 (wkF ls), winE a b] = totE rs ks ls a b from rfl)
  have Hf := Lib.hid hf
  have HwW := Lib.hid hwW
  have hln' : ls.length ≤ 1000000 := by omega
  clear hR hs hn hK hk hkn hL hl hx x0 y0 y1 hf hy hf1 hf2
  generalize wrE rs ks = E1 at C1 HE
  generalize totE rs ks ls a b = E at C3 HP HT HF0 HF1 HE ⊢
  generalize totF rs ks ls a b = R at HF0 HF1 ⊢
  go_enter Try.func10, Try.ntmps10
  go_upto_region 1 with fail
  rw [← hW]
  clear hW
  go_cut [10] from 14 to 70 (fun e wc => e = .int .i64 E ∧ Below W.heap.size W wc)
  case first =>
    cases hab : betwB a 1 b
    · have HWE := Lib.hid (show winE a b = unlessE false 1 by simp [winE, hab])
      have Hab := Lib.hid hab
      clear hab
      rw [HWE.out] at HE
      show Code.wp _ (Code.region 1 ops_10_1 true) _ _ _
      refine region_start 27 (fun w' => Below W.heap.size W w' ∧ w'.cell? ⟨w.heap.size, 0, none⟩ = some (.slice xa ls.length xc) ∧ w'.cell? ⟨w.heap.size + 1, 0, none⟩ = some (.int .i64 a) ∧ w'.cell? ⟨w.heap.size + 1, 1, none⟩ = some (.int .i64 b)) (by kernel_rfl) rfl ?_ (fun hHeld => ?_)
      · (exact HS.out _ (by first | assumption | exact hHeld.1 | exact below_step hHeld.1 (by assumption) | exact below_step hHeld.1 (below_alloc _ _)))
      refine take_to 0 14 #[true, false, false, false, false, false, false, false, false, false, false, false, false, false, false, false, false, false, false, false, false, false, false, false, false, false, false] (v := ?_) ops_10_1_0 rfl ops_10_1_ns (by kernel_rfl) (by kernel_rfl) (fun _ _ _ h => h) (by rfl) ?y0n (by assumption) ?_
      case y0n =>
        intro w hSw
        try dsimp only at hSw
        go_simp
        try with_reducible rfl
      simp only [List.set_cons_zero, List.set_cons_succ]
      refine take_to 1 15 #[true, true, false, false, false, false, false, false, false, false, false, false, false, false, false, false, false, false, false, false, false, false, false, false, false, false, false] (v := ?_) ops_10_1_1 rfl ops_10_1_ns (by kernel_rfl) (by kernel_rfl) (fun _ _ _ h => h) (by rfl) ?y1n (by assumption) ?_
      case y1n =>
        intro w hSw
        try dsimp only at hSw
        go_simp
        try with_reducible rfl
      simp only [List.set_cons_zero, List.set_cons_succ]
      refine take_to 3 17 #[true, true, false, true, false, false, false, false, false, false, false, false, false, false, false, false, false, false, false, false, false, false, false, false, false, false, false] (v := ?_) ops_10_1_3 rfl ops_10_1_ns (by kernel_rfl) (by kernel_rfl) (fun _ _ _ h => h) (by rfl) ?y3n (by assumption) ?_
      case y3n =>
        intro w hSw
        try dsimp only at hSw
        go_simp
        try with_reducible rfl
      simp only [List.set_cons_zero, List.set_cons_succ]
      refine take_to 4 18 #[true, true, false, true, true, false, false, false, false, false, false, false, false, false, false, false, false, false, false, false, false, false, false, false, false, false, false] (v := ?_) ops_10_1_4 rfl ops_10_1_ns (by kernel_rfl) (by kernel_rfl) (fun _ _ _ h => h) (by rfl) ?y4n (by assumption) ?_
      case y4n =>
        intro w hSw
        try dsimp only at hSw
        go_simp
        try with_reducible rfl
      simp only [List.set_cons_zero, List.set_cons_succ]
      refine take_to 5 19 #[true, true, false, true, true, true, false, false, false, false, false, false, false, false, false, false, false, false, false, false, false, false, false, false, false, false, false] (v := ?_) ops_10_1_5 rfl ops_10_1_ns (by kernel_rfl) (by kernel_rfl) (fun _ _ _ h => h) (by rfl) ?y5n (by assumption) ?_
      case y5n =>
        intro w hSw
        try dsimp only at hSw
        go_simp
        try with_reducible rfl
      simp only [List.set_cons_zero, List.set_cons_succ]
      refine take_to 6 20 #[true, true, false, true, true, true, true, false, false, false, false, false, false, false, false, false, false, false, false, false, false, false, false, false, false, false, false] (v := ?_) ops_10_1_6 rfl ops_10_1_ns (by kernel_rfl) (by kernel_rfl) (fun _ _ _ h => h) (by rfl) ?y6n (by assumption) ?_
      case y6n =>
        intro w hSw
        try dsimp only at hSw
        go_simp
        try with_reducible rfl
      simp only [List.set_cons_zero, List.set_cons_succ]
      refine take_to 7 21 #[true, true, false, true, true, true, true, true, false, false, false, false, false, false, false, false, false, false, false, false, false, false, false, false, false, false, false] (v := ?_) ops_10_1_7 rfl ops_10_1_ns (by kernel_rfl) (by kernel_rfl) (fun _ _ _ h => h) (by rfl) ?y7n (by assumption) ?_
      case y7n =>
        intro w hSw
        try dsimp only at hSw
        go_simp
        try with_reducible rfl
      simp only [List.set_cons_zero, List.set_cons_succ]
      refine take_to 9 23 #[true, true, false, true, true, true, true, true, false, true, false, false, false, false, false, false, false, false, false, false, false, false, false, false, false, false, false] (v := ?_) ops_10_1_9 rfl ops_10_1_ns (by kernel_rfl) (by kernel_rfl) (fun _ _ _ h => h) (by rfl) ?y9n (by assumption) ?_
      case y9n =>
        intro w hSw
        try dsimp only at hSw
        go_simp
        try with_reducible rfl
      simp only [List.set_cons_zero, List.set_cons_succ]
      refine take_to 10 24 #[true, true, false, true, true, true, true, true, false, true, true, false, false, false, false, false, false, false, false, false, false, false, false, false, false, false, false] (v := ?_) ops_10_1_10 rfl ops_10_1_ns (by kernel_rfl) (by kernel_rfl) (fun _ _ _ h => h) (by rfl) ?y10n (by assumption) ?_
      case y10n =>
        intro w hSw
        try dsimp only at hSw
        go_simp
        try with_reducible rfl
      simp only [List.set_cons_zero, List.set_cons_succ]
      refine take_to 11 25 #[true, true, false, true, true, true, true, true, false, true, true, true, false, false, false, false, false, false, false, false, false, false, false, false, false, false, false] (v := ?_) ops_10_1_11 rfl ops_10_1_ns (by kernel_rfl) (by kernel_rfl) (fun _ _ _ h => h) (by rfl) ?y11n (by assumption) ?_
      case y11n =>
        intro w hSw
        try dsimp only at hSw
        go_simp
        try with_reducible rfl
      simp only [List.set_cons_zero, List.set_cons_succ]
      refine take_to 13 27 #[true, true, false, true, true, true, true, true, false, true, true, true, false, true, false, false, false, false, false, false, false, false, false, false, false, false, false] (v := ?_) ops_10_1_13 rfl ops_10_1_ns (by kernel_rfl) (by kernel_rfl) (fun _ _ _ h => h) (by rfl) ?y13n (by assumption) ?_
      case y13n =>
        intro w hSw
        try dsimp only at hSw
        go_simp
        try with_reducible rfl
      simp only [List.set_cons_zero, List.set_cons_succ]
      refine take_to 14 28 #[true, true, false, true, true, true, true, true, false, true, true, true, false, true, true, false, false, false, false, false, false, false, false, false, false, false, false] (v := ?_) ops_10_1_14 rfl ops_10_1_ns (by kernel_rfl) (by kernel_rfl) (fun _ _ _ h => h) (by rfl) ?y14n (by assumption) ?_
      case y14n =>
        intro w hSw
        try dsimp only at hSw
        go_simp
        try with_reducible rfl
      simp only [List.set_cons_zero, List.set_cons_succ]
      refine take_to 15 29 #[true, true, false, true, true, true, true, true, false, true, true, true, false, true, true, true, false, false, false, false, false, false, false, false, false, false, false] (v := ?_) ops_10_1_15 rfl ops_10_1_ns (by kernel_rfl) (by kernel_rfl) (fun _ _ _ h => h) (by rfl) ?y15n (by assumption) ?_
      case y15n =>
        intro w hSw
        try dsimp only at hSw
        go_simp
        try with_reducible rfl
      simp only [List.set_cons_zero, List.set_cons_succ]
      refine take_to 16 30 #[true, true, false, true, true, true, true, true, false, true, true, true, false, true, true, true, true, false, false, false, false, false, false, false, false, false, false] (v := ?_) ops_10_1_16 rfl ops_10_1_ns (by kernel_rfl) (by kernel_rfl) (fun _ _ _ h => h) (by rfl) ?y16n (by assumption) ?_
      case y16n =>
        intro w hSw
        try dsimp only at hSw
        go_simp
        try with_reducible rfl
      simp only [List.set_cons_zero, List.set_cons_succ]
      refine run_to 2 #[true, true, true, true, true, true, true, true, false, true, true, true, false, true, true, true, true, false, false, false, false, false, false, false, false, false, false] ops_10_1_2 (by kernel_rfl) (by kernel_rfl) (by rfl) (fun K hK => ?_)
      go_simp
      refine (C1.out _ (by exact hHeld.1)).mono ?_
      rintro e w' ⟨rfl, hb⟩
      go_wp2_with fail
      refine hK.out _ _ ?_ (fun hHeld => ?_)
      · (exact HS.out _ (by first | assumption | exact hHeld.1 | exact below_step hHeld.1 (by assumption) | exact below_step hHeld.1 (below_alloc _ _)))
      clear hK K
      try simp only [Act.put, List.setIfInBounds_toArray, List.set_cons_zero, List.set_cons_succ]
      refine run_to 8 #[true, true, true, true, true, true, true, true, true, true, true, true, false, true, true, true, true, false, false, false, false, false, false, false, false, false, false] ops_10_1_8 (by kernel_rfl) (by kernel_rfl) (by rfl) (fun K hK => ?_)
      go_simp
      refine (each_calls 28 #[.pointer (some ⟨w.heap.size, 0, none⟩)] (enters_of Try.func28 (by kernel_rfl) rfl) (fun i => lnE (lnAt ls i)) ls.length ls.length _ hln' (by exact fun W2 i hi hb => Hf1.out _ W2 i hHeld.1 hi hb)).mono ?_
      rintro e w' ⟨rfl, hb⟩
      go_wp2_with fail
      refine hK.out _ _ ?_ (fun hHeld => ?_)
      · (exact HS.out _ (by first | assumption | exact hHeld.1 | exact below_step hHeld.1 (by assumption) | exact below_step hHeld.1 (below_alloc _ _)))
      clear hK K
      try simp only [Act.put, List.setIfInBounds_toArray, List.set_cons_zero, List.set_cons_succ]
      refine run_to 12 #[true, true, true, true, true, true, true, true, true, true, true, true, true, true, true, true, true, false, false, false, false, false, false, false, false, false, false] ops_10_1_12 (by kernel_rfl) (by kernel_rfl) (by rfl) (fun K hK => ?_)
      go_simp
      refine (each_calls 30 #[.pointer (some ⟨w.heap.size, 0, none⟩)] (enters_of Try.func30 (by kernel_rfl) rfl) (wkF ls) ls.length 60 _ hln' (by exact fun W2 i hi hb => Hf2.out _ W2 i hHeld.1 hi hb)).mono ?_
      rintro e w' ⟨rfl, hb⟩
      go_wp2_with fail
      refine hK.out _ _ ?_ (fun hHeld => ?_)
      · (exact HS.out _ (by first | assumption | exact hHeld.1 | exact below_step hHeld.1 (by assumption) | exact below_step hHeld.1 (below_alloc _ _)))
      clear hK K
      try simp only [Act.put, List.setIfInBounds_toArray, List.set_cons_zero, List.set_cons_succ]
      refine run_to 17 #[true, true, true, true, true, true, true, true, true, true, true, true, true, true, true, true, true, true, false, false, false, false, false, false, false, false, false] ops_10_1_17 (by kernel_rfl) (by kernel_rfl) (by rfl) (fun K hK => ?_)
      go_simp
      refine (between_calls _ 1 _ _).mono ?_
      rintro e w' ⟨rfl, rfl⟩
      rw [Hab.out]
      go_wp2_with fail
      refine hK.out _ _ ?_ (fun hHeld => ?_)
      · (exact HS.out _ (by first | assumption | exact hHeld.1 | exact below_step hHeld.1 (by assumption) | exact below_step hHeld.1 (below_alloc _ _)))
      clear hK K
      try simp only [Act.put, List.setIfInBounds_toArray, List.set_cons_zero, List.set_cons_succ]
      refine take_to 18 32 #[true, true, true, true, true, true, true, true, true, true, true, true, true, true, true, true, true, true, true, false, false, false, false, false, false, false, false] (v := ?_) ops_10_1_18 rfl ops_10_1_ns (by kernel_rfl) (by kernel_rfl) (fun _ _ _ h => h) (by rfl) ?y18n (by assumption) ?_
      case y18n =>
        intro w hSw
        try dsimp only at hSw
        go_simp
        try with_reducible rfl
      simp only [List.set_cons_zero, List.set_cons_succ]
      refine skip_to 19 33 #[true, true, true, true, true, true, true, true, true, true, true, true, true, true, true, true, true, true, true, true, false, false, false, false, false, false, false] ops_10_1_19 rfl ops_10_1_ns (by kernel_rfl) (by kernel_rfl) (fun _ _ _ h => h) (by rfl) (by assumption) ?_
      simp only [List.set_cons_zero, List.set_cons_succ]
      refine skip_to 20 34 #[true, true, true, true, true, true, true, true, true, true, true, true, true, true, true, true, true, true, true, true, true, false, false, false, false, false, false] ops_10_1_20 rfl ops_10_1_ns (by kernel_rfl) (by kernel_rfl) (fun _ _ _ h => h) (by rfl) (by assumption) ?_
      simp only [List.set_cons_zero, List.set_cons_succ]
      refine skip_to 21 35 #[true, true, true, true, true, true, true, true, true, true, true, true, true, true, true, true, true, true, true, true, true, true, false, false, false, false, false] ops_10_1_21 rfl ops_10_1_ns (by kernel_rfl) (by kernel_rfl) (fun _ _ _ h => h) (by rfl) (by assumption) ?_
      simp only [List.set_cons_zero, List.set_cons_succ]
      refine take_to 22 36 #[true, true, true, true, true, true, true, true, true, true, true, true, true, true, true, true, true, true, true, true, true, true, true, false, false, false, false] (v := ?_) ops_10_1_22 rfl ops_10_1_ns (by kernel_rfl) (by kernel_rfl) (fun _ _ _ h => h) (by rfl) ?y22n (by assumption) ?_
      case y22n =>
        intro w hSw
        try dsimp only at hSw
        go_simp
        try with_reducible rfl
      simp only [List.set_cons_zero, List.set_cons_succ]
      refine run_to 23 #[true, true, true, true, true, true, true, true, true, true, true, true, true, true, true, true, true, true, true, true, true, true, true, true, false, false, false] ops_10_1_23 (by kernel_rfl) (by kernel_rfl) (by rfl) (fun K hK => ?_)
      go_simp
      refine (unless_calls _ _ _).mono ?_
      rintro e w' ⟨rfl, rfl⟩
      go_wp2_with fail
      refine hK.out _ _ ?_ (fun hHeld => ?_)
      · (exact HS.out _ (by first | assumption | exact hHeld.1 | exact below_step hHeld.1 (by assumption) | exact below_step hHeld.1 (below_alloc _ _)))
      clear hK K
      try simp only [Act.put, List.setIfInBounds_toArray, List.set_cons_zero, List.set_cons_succ]
      refine run_to 24 #[true, true, true, true, true, true, true, true, true, true, true, true, true, true, true, true, true, true, true, true, true, true, true, true, true, false, false] ops_10_1_24 (by kernel_rfl) (by kernel_rfl) (by rfl) (fun K hK => ?_)
      go_simp
      refine hK.out _ _ ?_ (fun hHeld => ?_)
      · (exact HS.out _ (by first | assumption | exact hHeld.1 | exact below_step hHeld.1 (by assumption) | exact below_step hHeld.1 (below_alloc _ _)))
      clear hK K
      try simp only [Act.put, List.setIfInBounds_toArray, List.set_cons_zero, List.set_cons_succ]
      refine run_to 25 #[true, true, true, true, true, true, true, true, true, true, true, true, true, true, true, true, true, true, true, true, true, true, true, true, true, true, false] ops_10_1_25 (by kernel_rfl) (by kernel_rfl) (by rfl) (fun K hK => ?_)
      go_simp
      refine (orE_calls _ 0 4 [E1, eachE ls.length ls.length (fun i => lnE (lnAt ls i)), eachE ls.length 60 (wkF ls), unlessE false 1] _ (by simp) (by exact nums4'' _ _ _ _ _ _)).mono ?_
      rintro e w' ⟨rfl, rfl⟩
      rw [HE.out]
      go_wp2_with fail
      refine hK.out _ _ ?_ (fun hHeld => ?_)
      · (exact HS.out _ (by first | assumption | exact hHeld.1 | exact below_step hHeld.1 (by assumption) | exact below_step hHeld.1 (below_alloc _ _)))
      clear hK K
      try simp only [Act.put, List.setIfInBounds_toArray, List.set_cons_zero, List.set_cons_succ]
      refine take_to 26 10 #[true, true, true, true, true, true, true, true, true, true, true, true, true, true, true, true, true, true, true, true, true, true, true, true, true, true, true] (v := ?_) ops_10_1_26 rfl ops_10_1_ns (by kernel_rfl) (by kernel_rfl) (fun _ _ _ h => h) (by rfl) ?y26n (by assumption) ?_
      case y26n =>
        intro w hSw
        try dsimp only at hSw
        go_simp
        try with_reducible rfl
      simp only [List.set_cons_zero, List.set_cons_succ]
      refine wpAnyH_done (by kernel_rfl) ?_ _
      go_wp2_with fail
      go_meet
      case rel => exact ⟨rfl, hHeld.1⟩
    · have HWE := Lib.hid (show winE a b = unlessE (decide (b ≤ 61)) 1 by simp [winE, hab])
      have Hab := Lib.hid hab
      clear hab
      rw [HWE.out] at HE
      show Code.wp _ (Code.region 1 ops_10_1 true) _ _ _
      refine region_start 27 (fun w' => Below W.heap.size W w' ∧ w'.cell? ⟨w.heap.size, 0, none⟩ = some (.slice xa ls.length xc) ∧ w'.cell? ⟨w.heap.size + 1, 0, none⟩ = some (.int .i64 a) ∧ w'.cell? ⟨w.heap.size + 1, 1, none⟩ = some (.int .i64 b)) (by kernel_rfl) rfl ?_ (fun hHeld => ?_)
      · (exact HS.out _ (by first | assumption | exact hHeld.1 | exact below_step hHeld.1 (by assumption) | exact below_step hHeld.1 (below_alloc _ _)))
      refine take_to 0 14 #[true, false, false, false, false, false, false, false, false, false, false, false, false, false, false, false, false, false, false, false, false, false, false, false, false, false, false] (v := ?_) ops_10_1_0 rfl ops_10_1_ns (by kernel_rfl) (by kernel_rfl) (fun _ _ _ h => h) (by rfl) ?y0y (by assumption) ?_
      case y0y =>
        intro w hSw
        try dsimp only at hSw
        go_simp
        try with_reducible rfl
      simp only [List.set_cons_zero, List.set_cons_succ]
      refine take_to 1 15 #[true, true, false, false, false, false, false, false, false, false, false, false, false, false, false, false, false, false, false, false, false, false, false, false, false, false, false] (v := ?_) ops_10_1_1 rfl ops_10_1_ns (by kernel_rfl) (by kernel_rfl) (fun _ _ _ h => h) (by rfl) ?y1y (by assumption) ?_
      case y1y =>
        intro w hSw
        try dsimp only at hSw
        go_simp
        try with_reducible rfl
      simp only [List.set_cons_zero, List.set_cons_succ]
      refine take_to 3 17 #[true, true, false, true, false, false, false, false, false, false, false, false, false, false, false, false, false, false, false, false, false, false, false, false, false, false, false] (v := ?_) ops_10_1_3 rfl ops_10_1_ns (by kernel_rfl) (by kernel_rfl) (fun _ _ _ h => h) (by rfl) ?y3y (by assumption) ?_
      case y3y =>
        intro w hSw
        try dsimp only at hSw
        go_simp
        try with_reducible rfl
      simp only [List.set_cons_zero, List.set_cons_succ]
      refine take_to 4 18 #[true, true, false, true, true, false, false, false, false, false, false, false, false, false, false, false, false, false, false, false, false, false, false, false, false, false, false] (v := ?_) ops_10_1_4 rfl ops_10_1_ns (by kernel_rfl) (by kernel_rfl) (fun _ _ _ h => h) (by rfl) ?y4y (by assumption) ?_
      case y4y =>
        intro w hSw
        try dsimp only at hSw
        go_simp
        try with_reducible rfl
      simp only [List.set_cons_zero, List.set_cons_succ]
      refine take_to 5 19 #[true, true, false, true, true, true, false, false, false, false, false, false, false, false, false, false, false, false, false, false, false, false, false, false, false, false, false] (v := ?_) ops_10_1_5 rfl ops_10_1_ns (by kernel_rfl) (by kernel_rfl) (fun _ _ _ h => h) (by rfl) ?y5y (by assumption) ?_
      case y5y =>
        intro w hSw
        try dsimp only at hSw
        go_simp
        try with_reducible rfl
      simp only [List.set_cons_zero, List.set_cons_succ]
      refine take_to 6 20 #[true, true, false, true, true, true, true, false, false, false, false, false, false, false, false, false, false, false, false, false, false, false, false, false, false, false, false] (v := ?_) ops_10_1_6 rfl ops_10_1_ns (by kernel_rfl) (by kernel_rfl) (fun _ _ _ h => h) (by rfl) ?y6y (by assumption) ?_
      case y6y =>
        intro w hSw
        try dsimp only at hSw
        go_simp
        try with_reducible rfl
      simp only [List.set_cons_zero, List.set_cons_succ]
      refine take_to 7 21 #[true, true, false, true, true, true, true, true, false, false, false, false, false, false, false, false, false, false, false, false, false, false, false, false, false, false, false] (v := ?_) ops_10_1_7 rfl ops_10_1_ns (by kernel_rfl) (by kernel_rfl) (fun _ _ _ h => h) (by rfl) ?y7y (by assumption) ?_
      case y7y =>
        intro w hSw
        try dsimp only at hSw
        go_simp
        try with_reducible rfl
      simp only [List.set_cons_zero, List.set_cons_succ]
      refine take_to 9 23 #[true, true, false, true, true, true, true, true, false, true, false, false, false, false, false, false, false, false, false, false, false, false, false, false, false, false, false] (v := ?_) ops_10_1_9 rfl ops_10_1_ns (by kernel_rfl) (by kernel_rfl) (fun _ _ _ h => h) (by rfl) ?y9y (by assumption) ?_
      case y9y =>
        intro w hSw
        try dsimp only at hSw
        go_simp
        try with_reducible rfl
      simp only [List.set_cons_zero, List.set_cons_succ]
      refine take_to 10 24 #[true, true, false, true, true, true, true, true, false, true, true, false, false, false, false, false, false, false, false, false, false, false, false, false, false, false, false] (v := ?_) ops_10_1_10 rfl ops_10_1_ns (by kernel_rfl) (by kernel_rfl) (fun _ _ _ h => h) (by rfl) ?y10y (by assumption) ?_
      case y10y =>
        intro w hSw
        try dsimp only at hSw
        go_simp
        try with_reducible rfl
      simp only [List.set_cons_zero, List.set_cons_succ]
      refine take_to 11 25 #[true, true, false, true, true, true, true, true, false, true, true, true, false, false, false, false, false, false, false, false, false, false, false, false, false, false, false] (v := ?_) ops_10_1_11 rfl ops_10_1_ns (by kernel_rfl) (by kernel_rfl) (fun _ _ _ h => h) (by rfl) ?y11y (by assumption) ?_
      case y11y =>
        intro w hSw
        try dsimp only at hSw
        go_simp
        try with_reducible rfl
      simp only [List.set_cons_zero, List.set_cons_succ]
      refine take_to 13 27 #[true, true, false, true, true, true, true, true, false, true, true, true, false, true, false, false, false, false, false, false, false, false, false, false, false, false, false] (v := ?_) ops_10_1_13 rfl ops_10_1_ns (by kernel_rfl) (by kernel_rfl) (fun _ _ _ h => h) (by rfl) ?y13y (by assumption) ?_
      case y13y =>
        intro w hSw
        try dsimp only at hSw
        go_simp
        try with_reducible rfl
      simp only [List.set_cons_zero, List.set_cons_succ]
      refine take_to 14 28 #[true, true, false, true, true, true, true, true, false, true, true, true, false, true, true, false, false, false, false, false, false, false, false, false, false, false, false] (v := ?_) ops_10_1_14 rfl ops_10_1_ns (by kernel_rfl) (by kernel_rfl) (fun _ _ _ h => h) (by rfl) ?y14y (by assumption) ?_
      case y14y =>
        intro w hSw
        try dsimp only at hSw
        go_simp
        try with_reducible rfl
      simp only [List.set_cons_zero, List.set_cons_succ]
      refine take_to 15 29 #[true, true, false, true, true, true, true, true, false, true, true, true, false, true, true, true, false, false, false, false, false, false, false, false, false, false, false] (v := ?_) ops_10_1_15 rfl ops_10_1_ns (by kernel_rfl) (by kernel_rfl) (fun _ _ _ h => h) (by rfl) ?y15y (by assumption) ?_
      case y15y =>
        intro w hSw
        try dsimp only at hSw
        go_simp
        try with_reducible rfl
      simp only [List.set_cons_zero, List.set_cons_succ]
      refine take_to 16 30 #[true, true, false, true, true, true, true, true, false, true, true, true, false, true, true, true, true, false, false, false, false, false, false, false, false, false, false] (v := ?_) ops_10_1_16 rfl ops_10_1_ns (by kernel_rfl) (by kernel_rfl) (fun _ _ _ h => h) (by rfl) ?y16y (by assumption) ?_
      case y16y =>
        intro w hSw
        try dsimp only at hSw
        go_simp
        try with_reducible rfl
      simp only [List.set_cons_zero, List.set_cons_succ]
      refine run_to 2 #[true, true, true, true, true, true, true, true, false, true, true, true, false, true, true, true, true, false, false, false, false, false, false, false, false, false, false] ops_10_1_2 (by kernel_rfl) (by kernel_rfl) (by rfl) (fun K hK => ?_)
      go_simp
      refine (C1.out _ (by exact hHeld.1)).mono ?_
      rintro e w' ⟨rfl, hb⟩
      go_wp2_with fail
      refine hK.out _ _ ?_ (fun hHeld => ?_)
      · (exact HS.out _ (by first | assumption | exact hHeld.1 | exact below_step hHeld.1 (by assumption) | exact below_step hHeld.1 (below_alloc _ _)))
      clear hK K
      try simp only [Act.put, List.setIfInBounds_toArray, List.set_cons_zero, List.set_cons_succ]
      refine run_to 8 #[true, true, true, true, true, true, true, true, true, true, true, true, false, true, true, true, true, false, false, false, false, false, false, false, false, false, false] ops_10_1_8 (by kernel_rfl) (by kernel_rfl) (by rfl) (fun K hK => ?_)
      go_simp
      refine (each_calls 28 #[.pointer (some ⟨w.heap.size, 0, none⟩)] (enters_of Try.func28 (by kernel_rfl) rfl) (fun i => lnE (lnAt ls i)) ls.length ls.length _ hln' (by exact fun W2 i hi hb => Hf1.out _ W2 i hHeld.1 hi hb)).mono ?_
      rintro e w' ⟨rfl, hb⟩
      go_wp2_with fail
      refine hK.out _ _ ?_ (fun hHeld => ?_)
      · (exact HS.out _ (by first | assumption | exact hHeld.1 | exact below_step hHeld.1 (by assumption) | exact below_step hHeld.1 (below_alloc _ _)))
      clear hK K
      try simp only [Act.put, List.setIfInBounds_toArray, List.set_cons_zero, List.set_cons_succ]
      refine run_to 12 #[true, true, true, true, true, true, true, true, true, true, true, true, true, true, true, true, true, false, false, false, false, false, false, false, false, false, false] ops_10_1_12 (by kernel_rfl) (by kernel_rfl) (by rfl) (fun K hK => ?_)
      go_simp
      refine (each_calls 30 #[.pointer (some ⟨w.heap.size, 0, none⟩)] (enters_of Try.func30 (by kernel_rfl) rfl) (wkF ls) ls.length 60 _ hln' (by exact fun W2 i hi hb => Hf2.out _ W2 i hHeld.1 hi hb)).mono ?_
      rintro e w' ⟨rfl, hb⟩
      go_wp2_with fail
      refine hK.out _ _ ?_ (fun hHeld => ?_)
      · (exact HS.out _ (by first | assumption | exact hHeld.1 | exact below_step hHeld.1 (by assumption) | exact below_step hHeld.1 (below_alloc _ _)))
      clear hK K
      try simp only [Act.put, List.setIfInBounds_toArray, List.set_cons_zero, List.set_cons_succ]
      refine run_to 17 #[true, true, true, true, true, true, true, true, true, true, true, true, true, true, true, true, true, true, false, false, false, false, false, false, false, false, false] ops_10_1_17 (by kernel_rfl) (by kernel_rfl) (by rfl) (fun K hK => ?_)
      go_simp
      refine (between_calls _ 1 _ _).mono ?_
      rintro e w' ⟨rfl, rfl⟩
      rw [Hab.out]
      go_wp2_with fail
      refine hK.out _ _ ?_ (fun hHeld => ?_)
      · (exact HS.out _ (by first | assumption | exact hHeld.1 | exact below_step hHeld.1 (by assumption) | exact below_step hHeld.1 (below_alloc _ _)))
      clear hK K
      try simp only [Act.put, List.setIfInBounds_toArray, List.set_cons_zero, List.set_cons_succ]
      refine take_to 18 32 #[true, true, true, true, true, true, true, true, true, true, true, true, true, true, true, true, true, true, true, false, false, false, false, false, false, false, false] (v := ?_) ops_10_1_18 rfl ops_10_1_ns (by kernel_rfl) (by kernel_rfl) (fun _ _ _ h => h) (by rfl) ?y18y (by assumption) ?_
      case y18y =>
        intro w hSw
        try dsimp only at hSw
        go_simp
        try with_reducible rfl
      simp only [List.set_cons_zero, List.set_cons_succ]
      refine take_to 19 33 #[true, true, true, true, true, true, true, true, true, true, true, true, true, true, true, true, true, true, true, true, false, false, false, false, false, false, false] (v := ?_) ops_10_1_19 rfl ops_10_1_ns (by kernel_rfl) (by kernel_rfl) (fun _ _ _ h => h) (by rfl) ?y19y (by assumption) ?_
      case y19y =>
        intro w hSw
        try dsimp only at hSw
        go_simp
        try with_reducible rfl
      simp only [List.set_cons_zero, List.set_cons_succ]
      refine take_to 20 34 #[true, true, true, true, true, true, true, true, true, true, true, true, true, true, true, true, true, true, true, true, true, false, false, false, false, false, false] (v := ?_) ops_10_1_20 rfl ops_10_1_ns (by kernel_rfl) (by kernel_rfl) (fun _ _ _ h => h) (by rfl) ?y20y (by assumption) ?_
      case y20y =>
        intro w hSw
        try dsimp only at hSw
        go_simp
        try with_reducible rfl
      simp only [List.set_cons_zero, List.set_cons_succ]
      refine take_to 21 35 #[true, true, true, true, true, true, true, true, true, true, true, true, true, true, true, true, true, true, true, true, true, true, false, false, false, false, false] (v := ?_) ops_10_1_21 rfl ops_10_1_ns (by kernel_rfl) (by kernel_rfl) (fun _ _ _ h => h) (by rfl) ?y21y (by assumption) ?_
      case y21y =>
        intro w hSw
        try dsimp only at hSw
        go_simp
        try with_reducible rfl
      simp only [List.set_cons_zero, List.set_cons_succ]
      refine take_to 22 36 #[true, true, true, true, true, true, true, true, true, true, true, true, true, true, true, true, true, true, true, true, true, true, true, false, false, false, false] (v := ?_) ops_10_1_22 rfl ops_10_1_ns (by kernel_rfl) (by kernel_rfl) (fun _ _ _ h => h) (by rfl) ?y22y (by assumption) ?_
      case y22y =>
        intro w hSw
        try dsimp only at hSw
        go_simp
        try with_reducible rfl
      simp only [List.set_cons_zero, List.set_cons_succ]
      refine run_to 23 #[true, true, true, true, true, true, true, true, true, true, true, true, true, true, true, true, true, true, true, true, true, true, true, true, false, false, false] ops_10_1_23 (by kernel_rfl) (by kernel_rfl) (by rfl) (fun K hK => ?_)
      go_simp
      refine (unless_calls _ _ _).mono ?_
      rintro e w' ⟨rfl, rfl⟩
      go_wp2_with fail
      refine hK.out _ _ ?_ (fun hHeld => ?_)
      · (exact HS.out _ (by first | assumption | exact hHeld.1 | exact below_step hHeld.1 (by assumption) | exact below_step hHeld.1 (below_alloc _ _)))
      clear hK K
      try simp only [Act.put, List.setIfInBounds_toArray, List.set_cons_zero, List.set_cons_succ]
      refine run_to 24 #[true, true, true, true, true, true, true, true, true, true, true, true, true, true, true, true, true, true, true, true, true, true, true, true, true, false, false] ops_10_1_24 (by kernel_rfl) (by kernel_rfl) (by rfl) (fun K hK => ?_)
      go_simp
      refine hK.out _ _ ?_ (fun hHeld => ?_)
      · (exact HS.out _ (by first | assumption | exact hHeld.1 | exact below_step hHeld.1 (by assumption) | exact below_step hHeld.1 (below_alloc _ _)))
      clear hK K
      try simp only [Act.put, List.setIfInBounds_toArray, List.set_cons_zero, List.set_cons_succ]
      refine run_to 25 #[true, true, true, true, true, true, true, true, true, true, true, true, true, true, true, true, true, true, true, true, true, true, true, true, true, true, false] ops_10_1_25 (by kernel_rfl) (by kernel_rfl) (by rfl) (fun K hK => ?_)
      go_simp
      refine (orE_calls _ 0 4 [E1, eachE ls.length ls.length (fun i => lnE (lnAt ls i)), eachE ls.length 60 (wkF ls), unlessE (decide (b ≤ 61)) 1] _ (by simp) (by exact nums4'' _ _ _ _ _ _)).mono ?_
      rintro e w' ⟨rfl, rfl⟩
      rw [HE.out]
      go_wp2_with fail
      refine hK.out _ _ ?_ (fun hHeld => ?_)
      · (exact HS.out _ (by first | assumption | exact hHeld.1 | exact below_step hHeld.1 (by assumption) | exact below_step hHeld.1 (below_alloc _ _)))
      clear hK K
      try simp only [Act.put, List.setIfInBounds_toArray, List.set_cons_zero, List.set_cons_succ]
      refine take_to 26 10 #[true, true, true, true, true, true, true, true, true, true, true, true, true, true, true, true, true, true, true, true, true, true, true, true, true, true, true] (v := ?_) ops_10_1_26 rfl ops_10_1_ns (by kernel_rfl) (by kernel_rfl) (fun _ _ _ h => h) (by rfl) ?y26y (by assumption) ?_
      case y26y =>
        intro w hSw
        try dsimp only at hSw
        go_simp
        try with_reducible rfl
      simp only [List.set_cons_zero, List.set_cons_succ]
      refine wpAnyH_done (by kernel_rfl) ?_ _
      go_wp2_with fail
      go_meet
      case rel => exact ⟨rfl, hHeld.1⟩
  case rest =>
    obtain ⟨rfl, hb1⟩ := hcut
    clear hb0 C1
    by_cases hz : E = 0
    · have e1 : (E != 0) = false := by simp [hz]
      have C3z := Lib.hid (C3.out hz)
      have HPz := Lib.hid (HP.out hz)
      have HTz := Lib.hid (HT.out hz)
      have HRz := Lib.hid (HF1.out hz)
      have Hz := Lib.hid hz
      clear hz C3 HP HT HF0 HF1
      obtain ⟨-, x0, -, -⟩ := HS.out _ hb1
      have Hb1 := Lib.hid hb1
      clear hb1
      go_wp2_with fail
      clear x0
      go_loopw [11, 46] (fun s i wr => ∃ k : Nat, k ≤ ls.length ∧ i = .int .i64 k ∧ s = .int .i64 (sumI ((ls.take k).map fun l => if inW a b l then ptsI rs ks l.stats else 0)) ∧ Below W.heap.size W wr) (fun _ i _ => ls.length - (intOf i).toNat)
      case atStart => exact ⟨0, Nat.zero_le _, rfl, rfl, Hb1.out⟩
      case round =>
        obtain ⟨k, hk, rfl, rfl, hb⟩ := hrel
        by_cases hlt : k < ls.length
        · obtain ⟨l, hli⟩ : ∃ l, ls[k]? = some l := ⟨ls[k], List.getElem?_eq_getElem hlt⟩
          have hm := List.mem_of_getElem? hli
          have Hm := Lib.hid hm
          rcases lns_at (HLW.out wr hb) with ⟨_, h⟩ | ⟨g, off, cap, e, _, hg, _, hcell⟩
          · rw [h] at hlt; simp at hlt
          simp only [Value.slice.injEq] at e
          obtain ⟨rfl, -, rfl⟩ := e
          obtain ⟨u, q0, q1, q2, hT⟩ := hcell k l hli
          obtain ⟨ua, uc, rfl⟩ := tds_shape hT
          have hba : Below W.heap.size W (wr.alloc (.cells #[.string l.player, .int .i64 l.week, .slice ua l.stats.length uc] 36)) := below_step hb (below_alloc wr _)
          obtain ⟨-, -, y0, y1⟩ := HS.out _ hba
          have Hst := Lib.hid (sum_take (fun l => if inW a b l then ptsI rs ks l.stats else 0) hli)
          have hsk := HTz.out k
          have hpk := HPz.out l hm
          have Hba := Lib.hid hba
          have HC := Lib.hid (C3z.out l hm _ _ hba (hT.below (below_alloc wr _)))
          clear hli hm hcell hba hT hg
          generalize hA : sumI ((ls.take k).map fun l => if inW a b l then ptsI rs ks l.stats else 0) = A at hsk Hst
          clear hA
          unfold lnV at HC
          by_cases h1 : a ≤ l.week
          · by_cases h2 : l.week < b
            · have Hin := Lib.hid (show (if inW a b l then ptsI rs ks l.stats else 0) = ptsI rs ks l.stats by simp [inW, h1, h2])
              generalize hQ : ptsI rs ks l.stats = Q at hpk HC Hin Hst
              clear hQ
              have hwr : IntKind.i64.wrap (A + Q) = A + Q := IntWalk.i64_in _ (by omega)
              go_wp2_with fail
              refine HC.out.mono ?_
              rintro e w' ⟨rfl, hb'⟩
              go_wp2_with fail
              go_roundw
              case rel => exact ⟨k + 1, by omega, by go_num, by rw [Hst.out]; simp [inW, h1, h2], below_step Hba.out hb'⟩
              case measure => simp [intOf]; omega
            · go_wp2_with fail
              go_roundw
              case rel => exact ⟨k + 1, by omega, by go_num, by rw [Hst.out]; simp [inW, h2], Hba.out⟩
              case measure => simp [intOf]; omega
          · go_wp2_with fail
            go_roundw
            case rel => exact ⟨k + 1, by omega, by go_num, by rw [Hst.out]; simp [inW, h1], Hba.out⟩
            case measure => simp [intOf]; omega
        · obtain rfl : k = ls.length := by omega
          have hsk := HTz.out ls.length
          rw [List.take_length] at hsk ⊢
          have HR := Lib.hid HRz.out
          generalize sumI (ls.map fun l => if inW a b l then ptsI rs ks l.stats else 0) = A at hsk HR ⊢
          go_wp2_with fail
          refine (ofHundredths_calls _ _ (by unfold Int64; omega)).mono ?_
          rintro e w3 ⟨rfl, hb3⟩
          have hb03 := below_step hb hb3
          have hf3 := cells_later Hf.out hb03
          have f0 := free_of hf3 0
          have f1 := free_of hf3 1
          have g0 := cell_at hf3 0 rfl
          have g1 := cell_at hf3 1 rfl
          rw [← HR.out, Hz.out]
          have Hb3 := Lib.hid (below_step HwW.out hb03)
          clear hb3 hb03 hf3 hb HR
          rw [show frV R = .agg #[.int .i64 R.1, .int .i64 R.2] from rfl]
          obtain ⟨r1, r2⟩ := R
          dsimp only
          go_wp2_with fail
          try simp only [Exit.inBlock, Exit.then]
          refine bodyPost_ret (v := .tuple #[.agg #[.int .i64 r1, .int .i64 r2], .int .i64 0]) ?_ rfl ⟨by rw [Hz.out]; rfl, (Hb3.out.setCell (p := ⟨w.heap.size + 2, 0, none⟩) (by simp) _).setCell (p := ⟨w.heap.size + 2, 1, none⟩) (by simp) _⟩
          rw [results_cell_tmp rfl]
          go_simp
    · have e1 : (E != 0) = true := by simp [hz]
      have HR := HF0.out hz
      subst HR
      have hf1 := cells_later Hf.out hb1
      have f0 := free_of hf1 0
      have f1 := free_of hf1 1
      have g0 := cell_at hf1 0 rfl
      have g1 := cell_at hf1 1 rfl
      have Hb1 := Lib.hid (below_step HwW.out hb1)
      clear hz C3 hf1 hb1
      go_wp2_with fail
      try simp only [Exit.inBlock, Exit.then]
      refine bodyPost_ret (v := .tuple #[.agg #[.int .i64 0, .int .i64 0], .int .i64 E]) ?_ rfl ⟨rfl, (Hb1.out.setCell (p := ⟨w.heap.size + 2, 0, none⟩) (by simp) _).setCell (p := ⟨w.heap.size + 2, 1, none⟩) (by simp) _⟩
      rw [results_cell_tmp rfl]
      go_simp
end Go.Proofs.Ytfcdbjdomfaffaa
