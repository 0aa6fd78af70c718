/- A fraction written, on both sides. -/
import Derived.Test.YtmejjkicagkogaaGreatDoorFrb
import Derived.Test.YtmejjkicagkogaaGreatDoorRegc
import Derived.Test.YtmejjkicagkogaaGreatDoorShelf
import Derived.Sort.Grow
import Derived.Lib.ItoaLen
namespace Go.Proofs.YtmejjkicagkogaaGreatDoor
open Go.RowKit Go.Shelf Go.Sort

/-- The table that the library's writer of numbers reads, in every world that holds what this one holds. -/
def DigB (w : World) : Prop := ∀ w', Below w.heap.size w w' → Lib.TabIs Tryz.prog w' "internal/strconv.uint64pow10" .u64 Lib.pow10Tab
theorem DigB.below {w w' : World} (h : DigB w) (hb : Below w.heap.size w w') : DigB w' := fun w2 h2 => h w2 (below_step hb h2)
def itoaS (n : Int) : ByteArray := ⟨(Lib.itoa n).toArray⟩
theorem itoaS_size {n : Int} (h : Int64 n) : (itoaS n).size ≤ 21 := by
  have := Lib.itoa_length_le n h.1 h.2
  simpa [itoaS, ByteArray.size] using this
theorem itoaS_size' {n : Int} (h : Int64 n) : (itoaS n ++ (⟨#[47]⟩ : ByteArray)).size ≤ 22 := by
  have := itoaS_size h
  rw [ByteArray.size_append]
  have e : (⟨#[47]⟩ : ByteArray).size = 1 := rfl
  omega
def frS (f : Int × Int) : ByteArray := (itoaS f.1 ++ ⟨#[47]⟩) ++ itoaS f.2
theorem below_grown_it (w : World) (k : Nat) (os : Array Obj) : Below w.heap.size w (grow (w.drewN k) os) :=
  ⟨rfl, rfl, rfl, by first | (simp [grow]; done) | (simp [grow]; omega), fun i hi => by
    show ((w.drewN k).heap ++ os)[i]? = _
    rw [Array.getElem?_append_left (by show i < w.heap.size; omega)]
    rfl⟩
theorem itoa_calls (n : Int) (w : World) (hn : Int64 n) (hD : Lib.TabIs Tryz.prog w "internal/strconv.uint64pow10" .u64 Lib.pow10Tab) : Calls Tryz.prog 25 #[.int .i64 n] w fun e w' => e = .returned (.string (itoaS n)) ∧ Below w.heap.size w w' := by
  refine (Tryz.strconv_Itoa n hn.1 hn.2 w hD).mono ?_
  rintro e w' ⟨rfl, k, os, rfl⟩
  exact ⟨rfl, below_grown_it w k os⟩
def ops_26_1 : Array Go.Oper := #[
  { dst := some 3, op := Go.Op.fieldAddr 38 (Go.Operand.tmp 1) 0, type := 0, pos := "fraction.go:46", after := #[], guard := none },
  { dst := some 4, op := Go.Op.load 3 (Go.Operand.tmp 3), type := 3, pos := "fraction.go:46", after := #[{ on := 0, ground := Go.Ground.data }], guard := none },
  { dst := some 5, op := Go.Op.call { callee := Go.Callee.value (Go.Operand.func 25), args := #[Go.Operand.tmp 4], argTypes := #[3] }, type := 9, pos := "fraction.go:46", after := #[{ on := 1, ground := Go.Ground.data }], guard := none },
  { dst := some 6, op := Go.Op.binOp Go.BinOp.add 9 (Go.Operand.tmp 5) (Go.Operand.const (Go.Value.string { data := #[47] })) 9, type := 9, pos := "fraction.go:46", after := #[{ on := 2, ground := Go.Ground.data }], guard := none },
  { dst := some 7, op := Go.Op.fieldAddr 38 (Go.Operand.tmp 1) 1, type := 0, pos := "fraction.go:46", after := #[], guard := none },
  { dst := some 8, op := Go.Op.load 3 (Go.Operand.tmp 7), type := 3, pos := "fraction.go:46", after := #[{ on := 4, ground := Go.Ground.data }], guard := none },
  { dst := some 9, op := Go.Op.call { callee := Go.Callee.value (Go.Operand.func 25), args := #[Go.Operand.tmp 8], argTypes := #[3] }, type := 9, pos := "fraction.go:46", after := #[{ on := 5, ground := Go.Ground.data }, { on := 2, ground := Go.Ground.chain }], guard := none },
  { dst := some 10, op := Go.Op.binOp Go.BinOp.add 9 (Go.Operand.tmp 6) (Go.Operand.tmp 9) 9, type := 9, pos := "fraction.go:46", after := #[{ on := 3, ground := Go.Ground.data }, { on := 6, ground := Go.Ground.data }], guard := none },
  { dst := some 2, op := Go.Op.assign (Go.Operand.tmp 10), type := 9, pos := "fraction.go:46", after := #[{ on := 7, ground := Go.Ground.data }, { on := 6, ground := Go.Ground.chain }, { on := 0, ground := Go.Ground.phase }, { on := 1, ground := Go.Ground.phase }, { on := 2, ground := Go.Ground.phase }, { on := 3, ground := Go.Ground.phase }, { on := 4, ground := Go.Ground.phase }, { on := 5, ground := Go.Ground.phase }, { on := 6, ground := Go.Ground.phase }, { on := 7, ground := Go.Ground.phase }], guard := none }]
theorem ops_26_1_0 : ops_26_1[0]? = some ({ dst := some 3, op := Go.Op.fieldAddr 38 (Go.Operand.tmp 1) 0, type := 0, pos := "fraction.go:46", after := #[], guard := none } : Go.Oper) := rfl
theorem ops_26_1_1 : ops_26_1[1]? = some ({ dst := some 4, op := Go.Op.load 3 (Go.Operand.tmp 3), type := 3, pos := "fraction.go:46", after := #[{ on := 0, ground := Go.Ground.data }], guard := none } : Go.Oper) := rfl
theorem ops_26_1_2 : ops_26_1[2]? = some ({ dst := some 5, op := Go.Op.call { callee := Go.Callee.value (Go.Operand.func 25), args := #[Go.Operand.tmp 4], argTypes := #[3] }, type := 9, pos := "fraction.go:46", after := #[{ on := 1, ground := Go.Ground.data }], guard := none } : Go.Oper) := rfl
theorem ops_26_1_3 : ops_26_1[3]? = some ({ dst := some 6, op := Go.Op.binOp Go.BinOp.add 9 (Go.Operand.tmp 5) (Go.Operand.const (Go.Value.string { data := #[47] })) 9, type := 9, pos := "fraction.go:46", after := #[{ on := 2, ground := Go.Ground.data }], guard := none } : Go.Oper) := rfl
theorem ops_26_1_4 : ops_26_1[4]? = some ({ dst := some 7, op := Go.Op.fieldAddr 38 (Go.Operand.tmp 1) 1, type := 0, pos := "fraction.go:46", after := #[], guard := none } : Go.Oper) := rfl
theorem ops_26_1_5 : ops_26_1[5]? = some ({ dst := some 8, op := Go.Op.load 3 (Go.Operand.tmp 7), type := 3, pos := "fraction.go:46", after := #[{ on := 4, ground := Go.Ground.data }], guard := none } : Go.Oper) := rfl
theorem ops_26_1_6 : ops_26_1[6]? = some ({ dst := some 9, op := Go.Op.call { callee := Go.Callee.value (Go.Operand.func 25), args := #[Go.Operand.tmp 8], argTypes := #[3] }, type := 9, pos := "fraction.go:46", after := #[{ on := 5, ground := Go.Ground.data }, { on := 2, ground := Go.Ground.chain }], guard := none } : Go.Oper) := rfl
theorem ops_26_1_7 : ops_26_1[7]? = some ({ dst := some 10, op := Go.Op.binOp Go.BinOp.add 9 (Go.Operand.tmp 6) (Go.Operand.tmp 9) 9, type := 9, pos := "fraction.go:46", after := #[{ on := 3, ground := Go.Ground.data }, { on := 6, ground := Go.Ground.data }], guard := none } : Go.Oper) := rfl
theorem ops_26_1_8 : ops_26_1[8]? = some ({ dst := some 2, op := Go.Op.assign (Go.Operand.tmp 10), type := 9, pos := "fraction.go:46", after := #[{ on := 7, ground := Go.Ground.data }, { on := 6, ground := Go.Ground.chain }, { on := 0, ground := Go.Ground.phase }, { on := 1, ground := Go.Ground.phase }, { on := 2, ground := Go.Ground.phase }, { on := 3, ground := Go.Ground.phase }, { on := 4, ground := Go.Ground.phase }, { on := 5, ground := Go.Ground.phase }, { on := 6, ground := Go.Ground.phase }, { on := 7, ground := Go.Ground.phase }], guard := none } : Go.Oper) := rfl
theorem ops_26_1_ns : Go.Region.noSelect ops_26_1 = true := by kernel_rfl
set_option maxRecDepth 100000 in
set_option maxHeartbeats 1000000 in
theorem write_calls (n d : Int) (w : World) (hn : Int64 n) (hd : Int64 d) (hD : DigB w) : Calls Tryz.prog 26 #[frV (n, d)] w fun e w' => e = .returned (.string (frS (n, d))) ∧ Below w.heap.size w w' := by
  have Hn := Lib.hid hn
  have Hd := Lib.hid hd
  have HD := Lib.hid hD
  have hx := heap_alloc_new w (.cells #[.int .i64 n, .int .i64 d] 38)
  have hb0 := (below_alloc w (.cells #[.int .i64 n, .int .i64 d] 38)).drew
  have x0 := cell_at hx 0 rfl
  have x1 := cell_at hx 1 rfl
  have hC : (w.alloc (.cells #[.int .i64 n, .int .i64 d] 38)).drew.cell? ⟨w.heap.size, 0, none⟩ = some (.int .i64 n) ∧ (w.alloc (.cells #[.int .i64 n, .int .i64 d] 38)).drew.cell? ⟨w.heap.size, 1, none⟩ = some (.int .i64 d) := ⟨x0, x1⟩
  have s1 : ¬ 9223372036854775807 < (itoaS n).size + 1 := by have := itoaS_size hn; omega
  have s2 : ¬ 9223372036854775807 < (itoaS n).size + 1 + (itoaS d).size := by have := itoaS_size hn; have := itoaS_size hd; omega
  clear hn hd hD hx x0 x1
  unfold frV
  go_enter Tryz.func26, Tryz.ntmps26
  go_upto_region 1 with fail
  generalize (w.alloc (.cells #[.int .i64 n, .int .i64 d] 38)) = W at hb0 hC ⊢
  show Code.wp _ (Code.region 1 ops_26_1 true) _ _ _
  refine regionC_start 9 (fun w' => w'.cell? ⟨w.heap.size, 0, none⟩ = some (.int .i64 n) ∧ w'.cell? ⟨w.heap.size, 1, none⟩ = some (.int .i64 d)) (fun j => [1, 2, 3, 5].contains j) (by kernel_rfl) rfl ?_
  generalize W.drew = W2 at hb0 hC ⊢
  have HSC := Lib.hid (show ∀ w', Below W2.heap.size W2 w' → (w'.cell? ⟨w.heap.size, 0, none⟩ = some (.int .i64 n) ∧ w'.cell? ⟨w.heap.size, 1, none⟩ = some (.int .i64 d)) from fun w' hb => ⟨below_cell hb hC.1, below_cell hb hC.2⟩)
  have hbW := Below.refl W2.heap.size W2
  clear hC
  refine takeC 0 3 (v := ?_) ops_26_1_0 rfl (by kernel_rfl) (by kernel_rfl) (by kernel_rfl) (by rfl) (fun _ _ _ h => h) (by rfl) ?y0_1 ?_
  case y0_1 =>
    intro w
    go_simp
    try with_reducible rfl
  simp only [List.set_cons_zero, List.set_cons_succ]
  refine takeC 4 7 (v := ?_) ops_26_1_4 rfl (by kernel_rfl) (by kernel_rfl) (by kernel_rfl) (by rfl) (fun _ _ _ h => h) (by rfl) ?y4_2 ?_
  case y4_2 =>
    intro w
    go_simp
    try with_reducible rfl
  simp only [List.set_cons_zero, List.set_cons_succ]
  refine loadC 1 4 (v := ?_) ops_26_1_1 rfl (by kernel_rfl) (by kernel_rfl) (by kernel_rfl) (by kernel_rfl) (fun _ _ _ h => h) (by rfl) ?y1_3 (by exact HSC.out _ hbW) ?_
  case y1_3 =>
    intro w hSw
    try dsimp only at hSw
    go_simp
    try with_reducible rfl
  simp only [List.set_cons_zero, List.set_cons_succ]
  refine loadC 5 8 (v := ?_) ops_26_1_5 rfl (by kernel_rfl) (by kernel_rfl) (by kernel_rfl) (by kernel_rfl) (fun _ _ _ h => h) (by rfl) ?y5_4 (by exact HSC.out _ hbW) ?_
  case y5_4 =>
    intro w hSw
    try dsimp only at hSw
    go_simp
    try with_reducible rfl
  simp only [List.set_cons_zero, List.set_cons_succ]
  refine readyC (rs := [2]) (by kernel_rfl) (by simp) (each_cons (runC ops_26_1_2 (by rfl) (fun K hK => ?_)) each_nil)
  go_simp
  refine (itoa_calls n _ Hn.out (HD.out _ hb0)).mono ?_
  rintro e w' ⟨rfl, hbx⟩
  have hb0 := below_step hb0 hbx
  have hbW := below_step hbW hbx
  clear hbx
  go_wp2_with fail
  refine hK.out _ _ (fun _ => ?_) ?_
  · (exact HSC.out _ hbW)
  clear hK K
  try simp only [Act.put, List.setIfInBounds_toArray, List.set_cons_zero, List.set_cons_succ]
  refine readyC (rs := [3, 6]) (by kernel_rfl) (by simp) (each_cons (runC ops_26_1_3 (by rfl) (fun K hK => ?_)) (each_cons (runC ops_26_1_6 (by rfl) (fun K hK => ?_)) each_nil))
  · go_simp
    refine hK.out _ _ (fun _ => ?_) ?_
    · (exact HSC.out _ hbW)
    clear hK K
    try simp only [Act.put, List.setIfInBounds_toArray, List.set_cons_zero, List.set_cons_succ]
    refine readyC (rs := [6]) (by kernel_rfl) (by simp) (each_cons (runC ops_26_1_6 (by rfl) (fun K hK => ?_)) each_nil)
    go_simp
    refine (itoa_calls d _ Hd.out (HD.out _ hb0)).mono ?_
    rintro e w' ⟨rfl, hbx⟩
    have hb0 := below_step hb0 hbx
    have hbW := below_step hbW hbx
    clear hbx
    go_wp2_with fail
    refine hK.out _ _ (fun h => absurd h (by decide)) ?_
    clear hK K
    try simp only [Act.put, List.setIfInBounds_toArray, List.set_cons_zero, List.set_cons_succ]
    refine takeC 7 10 (v := ?_) ops_26_1_7 rfl (by kernel_rfl) (by kernel_rfl) (by kernel_rfl) (by rfl) (fun _ _ _ h => h) (by rfl) ?y7_5 ?_
    case y7_5 =>
      intro w
      go_simp
      try with_reducible rfl
    simp only [List.set_cons_zero, List.set_cons_succ]
    refine takeC 8 2 (v := ?_) ops_26_1_8 rfl (by kernel_rfl) (by kernel_rfl) (by kernel_rfl) (by rfl) (fun _ _ _ h => h) (by rfl) ?y8_6 ?_
    case y8_6 =>
      intro w
      go_simp
      try with_reducible rfl
    simp only [List.set_cons_zero, List.set_cons_succ]
    refine doneC (by kernel_rfl) ?_ _
    go_wp2_with fail
    go_ret
    exact ⟨rfl, hb0⟩
  · go_simp
    refine (itoa_calls d _ Hd.out (HD.out _ hb0)).mono ?_
    rintro e w' ⟨rfl, hbx⟩
    have hb0 := below_step hb0 hbx
    have hbW := below_step hbW hbx
    clear hbx
    go_wp2_with fail
    refine hK.out _ _ (fun h => absurd h (by decide)) ?_
    clear hK K
    try simp only [Act.put, List.setIfInBounds_toArray, List.set_cons_zero, List.set_cons_succ]
    refine readyC (rs := [3]) (by kernel_rfl) (by simp) (each_cons (runC ops_26_1_3 (by rfl) (fun K hK => ?_)) each_nil)
    go_simp
    refine hK.out _ _ (fun _ => ?_) ?_
    · (exact HSC.out _ hbW)
    clear hK K
    try simp only [Act.put, List.setIfInBounds_toArray, List.set_cons_zero, List.set_cons_succ]
    refine takeC 7 10 (v := ?_) ops_26_1_7 rfl (by kernel_rfl) (by kernel_rfl) (by kernel_rfl) (by rfl) (fun _ _ _ h => h) (by rfl) ?y7_7 ?_
    case y7_7 =>
      intro w
      go_simp
      try with_reducible rfl
    simp only [List.set_cons_zero, List.set_cons_succ]
    refine takeC 8 2 (v := ?_) ops_26_1_8 rfl (by kernel_rfl) (by kernel_rfl) (by kernel_rfl) (by rfl) (fun _ _ _ h => h) (by rfl) ?y8_8 ?_
    case y8_8 =>
      intro w
      go_simp
      try with_reducible rfl
    simp only [List.set_cons_zero, List.set_cons_succ]
    refine doneC (by kernel_rfl) ?_ _
    go_wp2_with fail
    go_ret
    exact ⟨rfl, hb0⟩
def ops_33_1 : Array Go.Oper := #[
  { dst := some 3, op := Go.Op.fieldAddr 38 (Go.Operand.tmp 1) 0, type := 0, pos := "scores.go:43", after := #[], guard := none },
  { dst := some 4, op := Go.Op.load 3 (Go.Operand.tmp 3), type := 3, pos := "scores.go:43", after := #[{ on := 0, ground := Go.Ground.data }], guard := none },
  { dst := some 5, op := Go.Op.call { callee := Go.Callee.value (Go.Operand.func 25), args := #[Go.Operand.tmp 4], argTypes := #[3] }, type := 9, pos := "scores.go:43", after := #[{ on := 1, ground := Go.Ground.data }], guard := none },
  { dst := some 6, op := Go.Op.binOp Go.BinOp.add 9 (Go.Operand.tmp 5) (Go.Operand.const (Go.Value.string { data := #[47] })) 9, type := 9, pos := "scores.go:43", after := #[{ on := 2, ground := Go.Ground.data }], guard := none },
  { dst := some 7, op := Go.Op.fieldAddr 38 (Go.Operand.tmp 1) 1, type := 0, pos := "scores.go:43", after := #[], guard := none },
  { dst := some 8, op := Go.Op.load 3 (Go.Operand.tmp 7), type := 3, pos := "scores.go:43", after := #[{ on := 4, ground := Go.Ground.data }], guard := none },
  { dst := some 9, op := Go.Op.call { callee := Go.Callee.value (Go.Operand.func 25), args := #[Go.Operand.tmp 8], argTypes := #[3] }, type := 9, pos := "scores.go:43", after := #[{ on := 5, ground := Go.Ground.data }, { on := 2, ground := Go.Ground.chain }], guard := none },
  { dst := some 10, op := Go.Op.binOp Go.BinOp.add 9 (Go.Operand.tmp 6) (Go.Operand.tmp 9) 9, type := 9, pos := "scores.go:43", after := #[{ on := 3, ground := Go.Ground.data }, { on := 6, ground := Go.Ground.data }], guard := none },
  { dst := some 2, op := Go.Op.assign (Go.Operand.tmp 10), type := 9, pos := "scores.go:43", after := #[{ on := 7, ground := Go.Ground.data }, { on := 6, ground := Go.Ground.chain }, { on := 0, ground := Go.Ground.phase }, { on := 1, ground := Go.Ground.phase }, { on := 2, ground := Go.Ground.phase }, { on := 3, ground := Go.Ground.phase }, { on := 4, ground := Go.Ground.phase }, { on := 5, ground := Go.Ground.phase }, { on := 6, ground := Go.Ground.phase }, { on := 7, ground := Go.Ground.phase }], guard := none }]
theorem ops_33_1_0 : ops_33_1[0]? = some ({ dst := some 3, op := Go.Op.fieldAddr 38 (Go.Operand.tmp 1) 0, type := 0, pos := "scores.go:43", after := #[], guard := none } : Go.Oper) := rfl
theorem ops_33_1_1 : ops_33_1[1]? = some ({ dst := some 4, op := Go.Op.load 3 (Go.Operand.tmp 3), type := 3, pos := "scores.go:43", after := #[{ on := 0, ground := Go.Ground.data }], guard := none } : Go.Oper) := rfl
theorem ops_33_1_2 : ops_33_1[2]? = some ({ dst := some 5, op := Go.Op.call { callee := Go.Callee.value (Go.Operand.func 25), args := #[Go.Operand.tmp 4], argTypes := #[3] }, type := 9, pos := "scores.go:43", after := #[{ on := 1, ground := Go.Ground.data }], guard := none } : Go.Oper) := rfl
theorem ops_33_1_3 : ops_33_1[3]? = some ({ dst := some 6, op := Go.Op.binOp Go.BinOp.add 9 (Go.Operand.tmp 5) (Go.Operand.const (Go.Value.string { data := #[47] })) 9, type := 9, pos := "scores.go:43", after := #[{ on := 2, ground := Go.Ground.data }], guard := none } : Go.Oper) := rfl
theorem ops_33_1_4 : ops_33_1[4]? = some ({ dst := some 7, op := Go.Op.fieldAddr 38 (Go.Operand.tmp 1) 1, type := 0, pos := "scores.go:43", after := #[], guard := none } : Go.Oper) := rfl
theorem ops_33_1_5 : ops_33_1[5]? = some ({ dst := some 8, op := Go.Op.load 3 (Go.Operand.tmp 7), type := 3, pos := "scores.go:43", after := #[{ on := 4, ground := Go.Ground.data }], guard := none } : Go.Oper) := rfl
theorem ops_33_1_6 : ops_33_1[6]? = some ({ dst := some 9, op := Go.Op.call { callee := Go.Callee.value (Go.Operand.func 25), args := #[Go.Operand.tmp 8], argTypes := #[3] }, type := 9, pos := "scores.go:43", after := #[{ on := 5, ground := Go.Ground.data }, { on := 2, ground := Go.Ground.chain }], guard := none } : Go.Oper) := rfl
theorem ops_33_1_7 : ops_33_1[7]? = some ({ dst := some 10, op := Go.Op.binOp Go.BinOp.add 9 (Go.Operand.tmp 6) (Go.Operand.tmp 9) 9, type := 9, pos := "scores.go:43", after := #[{ on := 3, ground := Go.Ground.data }, { on := 6, ground := Go.Ground.data }], guard := none } : Go.Oper) := rfl
theorem ops_33_1_8 : ops_33_1[8]? = some ({ dst := some 2, op := Go.Op.assign (Go.Operand.tmp 10), type := 9, pos := "scores.go:43", after := #[{ on := 7, ground := Go.Ground.data }, { on := 6, ground := Go.Ground.chain }, { on := 0, ground := Go.Ground.phase }, { on := 1, ground := Go.Ground.phase }, { on := 2, ground := Go.Ground.phase }, { on := 3, ground := Go.Ground.phase }, { on := 4, ground := Go.Ground.phase }, { on := 5, ground := Go.Ground.phase }, { on := 6, ground := Go.Ground.phase }, { on := 7, ground := Go.Ground.phase }], guard := none } : Go.Oper) := rfl
theorem ops_33_1_ns : Go.Region.noSelect ops_33_1 = true := by kernel_rfl
set_option maxRecDepth 100000 in
set_option maxHeartbeats 1000000 in
theorem fractionText_calls (n d : Int) (w : World) (hn : Int64 n) (hd : Int64 d) (hD : DigB w) : Calls Tryz.prog 33 #[frV (n, d)] w fun e w' => e = .returned (.string (frS (n, d))) ∧ Below w.heap.size w w' := by
  have Hn := Lib.hid hn
  have Hd := Lib.hid hd
  have HD := Lib.hid hD
  have hx := heap_alloc_new w (.cells #[.int .i64 n, .int .i64 d] 38)
  have hb0 := (below_alloc w (.cells #[.int .i64 n, .int .i64 d] 38)).drew
  have x0 := cell_at hx 0 rfl
  have x1 := cell_at hx 1 rfl
  have hC : (w.alloc (.cells #[.int .i64 n, .int .i64 d] 38)).drew.cell? ⟨w.heap.size, 0, none⟩ = some (.int .i64 n) ∧ (w.alloc (.cells #[.int .i64 n, .int .i64 d] 38)).drew.cell? ⟨w.heap.size, 1, none⟩ = some (.int .i64 d) := ⟨x0, x1⟩
  have s1 : ¬ 9223372036854775807 < (itoaS n).size + 1 := by have := itoaS_size hn; omega
  have s2 : ¬ 9223372036854775807 < (itoaS n).size + 1 + (itoaS d).size := by have := itoaS_size hn; have := itoaS_size hd; omega
  clear hn hd hD hx x0 x1
  unfold frV
  go_enter Tryz.func33, Tryz.ntmps33
  go_upto_region 1 with fail
  generalize (w.alloc (.cells #[.int .i64 n, .int .i64 d] 38)) = W at hb0 hC ⊢
  show Code.wp _ (Code.region 1 ops_33_1 true) _ _ _
  refine regionC_start 9 (fun w' => w'.cell? ⟨w.heap.size, 0, none⟩ = some (.int .i64 n) ∧ w'.cell? ⟨w.heap.size, 1, none⟩ = some (.int .i64 d)) (fun j => [1, 2, 3, 5].contains j) (by kernel_rfl) rfl ?_
  generalize W.drew = W2 at hb0 hC ⊢
  have HSC := Lib.hid (show ∀ w', Below W2.heap.size W2 w' → (w'.cell? ⟨w.heap.size, 0, none⟩ = some (.int .i64 n) ∧ w'.cell? ⟨w.heap.size, 1, none⟩ = some (.int .i64 d)) from fun w' hb => ⟨below_cell hb hC.1, below_cell hb hC.2⟩)
  have hbW := Below.refl W2.heap.size W2
  clear hC
  refine takeC 0 3 (v := ?_) ops_33_1_0 rfl (by kernel_rfl) (by kernel_rfl) (by kernel_rfl) (by rfl) (fun _ _ _ h => h) (by rfl) ?y0_1 ?_
  case y0_1 =>
    intro w
    go_simp
    try with_reducible rfl
  simp only [List.set_cons_zero, List.set_cons_succ]
  refine takeC 4 7 (v := ?_) ops_33_1_4 rfl (by kernel_rfl) (by kernel_rfl) (by kernel_rfl) (by rfl) (fun _ _ _ h => h) (by rfl) ?y4_2 ?_
  case y4_2 =>
    intro w
    go_simp
    try with_reducible rfl
  simp only [List.set_cons_zero, List.set_cons_succ]
  refine loadC 1 4 (v := ?_) ops_33_1_1 rfl (by kernel_rfl) (by kernel_rfl) (by kernel_rfl) (by kernel_rfl) (fun _ _ _ h => h) (by rfl) ?y1_3 (by exact HSC.out _ hbW) ?_
  case y1_3 =>
    intro w hSw
    try dsimp only at hSw
    go_simp
    try with_reducible rfl
  simp only [List.set_cons_zero, List.set_cons_succ]
  refine loadC 5 8 (v := ?_) ops_33_1_5 rfl (by kernel_rfl) (by kernel_rfl) (by kernel_rfl) (by kernel_rfl) (fun _ _ _ h => h) (by rfl) ?y5_4 (by exact HSC.out _ hbW) ?_
  case y5_4 =>
    intro w hSw
    try dsimp only at hSw
    go_simp
    try with_reducible rfl
  simp only [List.set_cons_zero, List.set_cons_succ]
  refine readyC (rs := [2]) (by kernel_rfl) (by simp) (each_cons (runC ops_33_1_2 (by rfl) (fun K hK => ?_)) each_nil)
  go_simp
  refine (itoa_calls n _ Hn.out (HD.out _ hb0)).mono ?_
  rintro e w' ⟨rfl, hbx⟩
  have hb0 := below_step hb0 hbx
  have hbW := below_step hbW hbx
  clear hbx
  go_wp2_with fail
  refine hK.out _ _ (fun _ => ?_) ?_
  · (exact HSC.out _ hbW)
  clear hK K
  try simp only [Act.put, List.setIfInBounds_toArray, List.set_cons_zero, List.set_cons_succ]
  refine readyC (rs := [3, 6]) (by kernel_rfl) (by simp) (each_cons (runC ops_33_1_3 (by rfl) (fun K hK => ?_)) (each_cons (runC ops_33_1_6 (by rfl) (fun K hK => ?_)) each_nil))
  · go_simp
    refine hK.out _ _ (fun _ => ?_) ?_
    · (exact HSC.out _ hbW)
    clear hK K
    try simp only [Act.put, List.setIfInBounds_toArray, List.set_cons_zero, List.set_cons_succ]
    refine readyC (rs := [6]) (by kernel_rfl) (by simp) (each_cons (runC ops_33_1_6 (by rfl) (fun K hK => ?_)) each_nil)
    go_simp
    refine (itoa_calls d _ Hd.out (HD.out _ hb0)).mono ?_
    rintro e w' ⟨rfl, hbx⟩
    have hb0 := below_step hb0 hbx
    have hbW := below_step hbW hbx
    clear hbx
    go_wp2_with fail
    refine hK.out _ _ (fun h => absurd h (by decide)) ?_
    clear hK K
    try simp only [Act.put, List.setIfInBounds_toArray, List.set_cons_zero, List.set_cons_succ]
    refine takeC 7 10 (v := ?_) ops_33_1_7 rfl (by kernel_rfl) (by kernel_rfl) (by kernel_rfl) (by rfl) (fun _ _ _ h => h) (by rfl) ?y7_5 ?_
    case y7_5 =>
      intro w
      go_simp
      try with_reducible rfl
    simp only [List.set_cons_zero, List.set_cons_succ]
    refine takeC 8 2 (v := ?_) ops_33_1_8 rfl (by kernel_rfl) (by kernel_rfl) (by kernel_rfl) (by rfl) (fun _ _ _ h => h) (by rfl) ?y8_6 ?_
    case y8_6 =>
      intro w
      go_simp
      try with_reducible rfl
    simp only [List.set_cons_zero, List.set_cons_succ]
    refine doneC (by kernel_rfl) ?_ _
    go_wp2_with fail
    go_ret
    exact ⟨rfl, hb0⟩
  · go_simp
    refine (itoa_calls d _ Hd.out (HD.out _ hb0)).mono ?_
    rintro e w' ⟨rfl, hbx⟩
    have hb0 := below_step hb0 hbx
    have hbW := below_step hbW hbx
    clear hbx
    go_wp2_with fail
    refine hK.out _ _ (fun h => absurd h (by decide)) ?_
    clear hK K
    try simp only [Act.put, List.setIfInBounds_toArray, List.set_cons_zero, List.set_cons_succ]
    refine readyC (rs := [3]) (by kernel_rfl) (by simp) (each_cons (runC ops_33_1_3 (by rfl) (fun K hK => ?_)) each_nil)
    go_simp
    refine hK.out _ _ (fun _ => ?_) ?_
    · (exact HSC.out _ hbW)
    clear hK K
    try simp only [Act.put, List.setIfInBounds_toArray, List.set_cons_zero, List.set_cons_succ]
    refine takeC 7 10 (v := ?_) ops_33_1_7 rfl (by kernel_rfl) (by kernel_rfl) (by kernel_rfl) (by rfl) (fun _ _ _ h => h) (by rfl) ?y7_7 ?_
    case y7_7 =>
      intro w
      go_simp
      try with_reducible rfl
    simp only [List.set_cons_zero, List.set_cons_succ]
    refine takeC 8 2 (v := ?_) ops_33_1_8 rfl (by kernel_rfl) (by kernel_rfl) (by kernel_rfl) (by rfl) (fun _ _ _ h => h) (by rfl) ?y8_8 ?_
    case y8_8 =>
      intro w
      go_simp
      try with_reducible rfl
    simp only [List.set_cons_zero, List.set_cons_succ]
    refine doneC (by kernel_rfl) ?_ _
    go_wp2_with fail
    go_ret
    exact ⟨rfl, hb0⟩
end Go.Proofs.YtmejjkicagkogaaGreatDoor
