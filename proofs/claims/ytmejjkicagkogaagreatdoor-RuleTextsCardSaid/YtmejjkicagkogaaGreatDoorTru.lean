/- A rule read out of a line. -/
import Derived.Test.YtmejjkicagkogaaGreatDoorTrs
namespace Go.Proofs.YtmejjkicagkogaaGreatDoor
open Go.RowKit

/-- The kind that a word stands for; 0: none. -/
def kindI (k : ByteArray) : Int := Lib.idxOfS kindsL k + 1
def undashS (s : ByteArray) : ByteArray := if beqS s ⟨#[45]⟩ then ⟨#[]⟩ else s
/-- Has a line the form of a rule's? -/
def formB (s : ByteArray) : Bool := goodW s && decide ((wsL s).length = 6)
def ruleL (s : ByteArray) : RD := ⟨strAt (wsL s) 0, strAt (wsL s) 1, undashS (strAt (wsL s) 2), kindI (strAt (wsL s) 3), (numV (strAt (wsL s) 4).data.toList).getD 0, ((fracV (strAt (wsL s) 5).data.toList).getD (0, 0)).1, ((fracV (strAt (wsL s) 5).data.toList).getD (0, 0)).2⟩
def ruleB (s : ByteArray) : Bool := formB s && (decide (0 < kindI (strAt (wsL s) 3)) && (numV (strAt (wsL s) 4).data.toList).isSome && (fracV (strAt (wsL s) 5).data.toList).isSome)
theorem idx_bound (x : ByteArray) : ∀ (zs : List ByteArray) (i : Nat), -1 ≤ Lib.idxFromS zs x i ∧ Lib.idxFromS zs x i < (i : Int) + zs.length := by
  intro zs
  induction zs with
  | nil => intro i; simp [Lib.idxFromS]; omega
  | cons z zs ih =>
    intro i
    unfold Lib.idxFromS
    split
    · simp; omega
    · have := ih (i + 1)
      simp at this ⊢
      omega
theorem kindI_bound (k : ByteArray) : 0 ≤ kindI k ∧ kindI k ≤ 4 := by
  have := idx_bound k kindsL 0
  unfold kindI Lib.idxOfS
  have e : kindsL.length = 4 := rfl
  rw [e] at this
  omega
theorem kindIx_calls (w : World) (k : ByteArray) : Calls Tryz.prog 42 #[.slice (some ⟨w.heap.size, 0, none⟩) 4 4, .string k] (w.alloc (.cells (kindsL.map Value.string).toArray 9)) fun e w' => e = .returned (.int .i64 (kindI k - 1)) ∧ (w.alloc (.cells (kindsL.map Value.string).toArray 9)) = w' := by
  refine (Tryz.slices_Index_string w.heap.size 0 4 4 kindsL k _ (Nat.le_refl _) (by omega) fun j hj => ?_).mono fun e w' ⟨h1, h2⟩ => ⟨?_, h2.symm⟩
  · rw [World.cell?_alloc_at _ _ _ _ rfl, Nat.zero_add, List.getElem?_toArray, List.getElem?_map, List.getElem?_eq_getElem hj]
    simp [List.getD, List.getElem?_eq_getElem hj]
  · rw [h1, show kindsL.take 4 = kindsL from rfl]
    unfold kindI
    rw [show Lib.idxOfS kindsL k + 1 - 1 = Lib.idxOfS kindsL k by omega]
theorem below_set7 {b X : Nat} {w w' : World} (h : Below b w w') (hX : b ≤ X) (a0 a1 a2 a3 a4 a5 a6 : Value) : Below b w (((((((w'.setCell ⟨X, 0, none⟩ a0).setCell ⟨X, 1, none⟩ a1).setCell ⟨X, 2, none⟩ a2).setCell ⟨X, 3, none⟩ a3).setCell ⟨X, 4, none⟩ a4).setCell ⟨X, 5, none⟩ a5).setCell ⟨X, 6, none⟩ a6) :=
  ((((((h.setCell (p := ⟨X, 0, none⟩) hX _).setCell (p := ⟨X, 1, none⟩) hX _).setCell (p := ⟨X, 2, none⟩) hX _).setCell (p := ⟨X, 3, none⟩) hX _).setCell (p := ⟨X, 4, none⟩) hX _).setCell (p := ⟨X, 5, none⟩) hX _).setCell (p := ⟨X, 6, none⟩) hX _
theorem six_cells {w : World} {lo g : Nat} {P : List ByteArray} (h : Strs w lo (.slice (some ⟨g, 0, none⟩) 6 6) P) (h6 : P.length = 6) : lo ≤ g ∧ ∀ i, i < 6 → w.cell? ⟨g, i, none⟩ = some (.string (strAt P i)) := by
  rcases strs_at h with ⟨_, h0⟩ | ⟨g', off, cap, e, hlo, _, _, hc⟩
  · rw [h0] at h6; cases h6
  · rw [h6] at e
    simp only [Value.slice.injEq, Option.some.injEq, Addr.mk.injEq, and_true, true_and] at e
    obtain ⟨⟨rfl, rfl⟩, -⟩ := e
    exact ⟨hlo, fun i hi => by
      have hk : P[i]? = some (P[i]'(by omega)) := List.getElem?_eq_getElem (by omega)
      rw [← Nat.zero_add i, hc i _ hk, Nat.zero_add, strAt_some hk]⟩
def ops_35_7 : Array Go.Oper := #[
  { dst := some 31, op := Go.Op.call { callee := Go.Callee.value (Go.Operand.func 24), args := #[], argTypes := #[] }, type := 52, pos := "text.go:45", after := #[], guard := none },
  { dst := some 32, op := Go.Op.move (Go.Operand.tmp 4), type := 52, pos := "text.go:45", after := #[], guard := none },
  { dst := some 33, op := Go.Op.indexAddr 52 (Go.Operand.tmp 32) (Go.Operand.const (Go.Value.int Go.IntKind.i64 3)), type := 0, pos := "text.go:45", after := #[{ on := 1, ground := Go.Ground.data }], guard := none },
  { dst := some 34, op := Go.Op.load 9 (Go.Operand.tmp 33), type := 9, pos := "text.go:45", after := #[{ on := 2, ground := Go.Ground.data }], guard := none },
  { dst := some 35, op := Go.Op.call { callee := Go.Callee.value (Go.Operand.func 42), args := #[Go.Operand.tmp 31, Go.Operand.tmp 34], argTypes := #[52, 9] }, type := 3, pos := "text.go:45", after := #[{ on := 0, ground := Go.Ground.data }, { on := 3, ground := Go.Ground.data }, { on := 0, ground := Go.Ground.chain }], guard := none },
  { dst := some 36, op := Go.Op.binOp Go.BinOp.add 3 (Go.Operand.tmp 35) (Go.Operand.const (Go.Value.int Go.IntKind.i64 1)) 3, type := 3, pos := "text.go:45", after := #[{ on := 4, ground := Go.Ground.data }], guard := none },
  { dst := some 7, op := Go.Op.assign (Go.Operand.tmp 36), type := 3, pos := "text.go:45", after := #[{ on := 5, ground := Go.Ground.data }, { on := 4, ground := Go.Ground.chain }, { on := 0, ground := Go.Ground.phase }, { on := 1, ground := Go.Ground.phase }, { on := 2, ground := Go.Ground.phase }, { on := 3, ground := Go.Ground.phase }, { on := 4, ground := Go.Ground.phase }, { on := 5, ground := Go.Ground.phase }], guard := none }]
theorem ops_35_7_0 : ops_35_7[0]? = some ({ dst := some 31, op := Go.Op.call { callee := Go.Callee.value (Go.Operand.func 24), args := #[], argTypes := #[] }, type := 52, pos := "text.go:45", after := #[], guard := none } : Go.Oper) := rfl
theorem ops_35_7_1 : ops_35_7[1]? = some ({ dst := some 32, op := Go.Op.move (Go.Operand.tmp 4), type := 52, pos := "text.go:45", after := #[], guard := none } : Go.Oper) := rfl
theorem ops_35_7_2 : ops_35_7[2]? = some ({ dst := some 33, op := Go.Op.indexAddr 52 (Go.Operand.tmp 32) (Go.Operand.const (Go.Value.int Go.IntKind.i64 3)), type := 0, pos := "text.go:45", after := #[{ on := 1, ground := Go.Ground.data }], guard := none } : Go.Oper) := rfl
theorem ops_35_7_3 : ops_35_7[3]? = some ({ dst := some 34, op := Go.Op.load 9 (Go.Operand.tmp 33), type := 9, pos := "text.go:45", after := #[{ on := 2, ground := Go.Ground.data }], guard := none } : Go.Oper) := rfl
theorem ops_35_7_4 : ops_35_7[4]? = some ({ dst := some 35, op := Go.Op.call { callee := Go.Callee.value (Go.Operand.func 42), args := #[Go.Operand.tmp 31, Go.Operand.tmp 34], argTypes := #[52, 9] }, type := 3, pos := "text.go:45", after := #[{ on := 0, ground := Go.Ground.data }, { on := 3, ground := Go.Ground.data }, { on := 0, ground := Go.Ground.chain }], guard := none } : Go.Oper) := rfl
theorem ops_35_7_5 : ops_35_7[5]? = some ({ dst := some 36, op := Go.Op.binOp Go.BinOp.add 3 (Go.Operand.tmp 35) (Go.Operand.const (Go.Value.int Go.IntKind.i64 1)) 3, type := 3, pos := "text.go:45", after := #[{ on := 4, ground := Go.Ground.data }], guard := none } : Go.Oper) := rfl
theorem ops_35_7_6 : ops_35_7[6]? = some ({ dst := some 7, op := Go.Op.assign (Go.Operand.tmp 36), type := 3, pos := "text.go:45", after := #[{ on := 5, ground := Go.Ground.data }, { on := 4, ground := Go.Ground.chain }, { on := 0, ground := Go.Ground.phase }, { on := 1, ground := Go.Ground.phase }, { on := 2, ground := Go.Ground.phase }, { on := 3, ground := Go.Ground.phase }, { on := 4, ground := Go.Ground.phase }, { on := 5, ground := Go.Ground.phase }], guard := none } : Go.Oper) := rfl
theorem ops_35_7_ns : Go.Region.noSelect ops_35_7 = true := by kernel_rfl
def ops_35_10 : Array Go.Oper := #[
  { dst := some 51, op := Go.Op.move (Go.Operand.tmp 4), type := 52, pos := "text.go:48", after := #[], guard := none },
  { dst := some 52, op := Go.Op.indexAddr 52 (Go.Operand.tmp 51) (Go.Operand.const (Go.Value.int Go.IntKind.i64 0)), type := 0, pos := "text.go:48", after := #[{ on := 0, ground := Go.Ground.data }], guard := none },
  { dst := some 53, op := Go.Op.load 9 (Go.Operand.tmp 52), type := 9, pos := "text.go:48", after := #[{ on := 1, ground := Go.Ground.data }], guard := none },
  { dst := some 54, op := Go.Op.move (Go.Operand.tmp 4), type := 52, pos := "text.go:48", after := #[], guard := none },
  { dst := some 55, op := Go.Op.indexAddr 52 (Go.Operand.tmp 54) (Go.Operand.const (Go.Value.int Go.IntKind.i64 1)), type := 0, pos := "text.go:48", after := #[{ on := 3, ground := Go.Ground.data }], guard := none },
  { dst := some 56, op := Go.Op.load 9 (Go.Operand.tmp 55), type := 9, pos := "text.go:48", after := #[{ on := 4, ground := Go.Ground.data }], guard := none },
  { dst := some 57, op := Go.Op.move (Go.Operand.tmp 6), type := 9, pos := "text.go:48", after := #[], guard := none },
  { dst := some 58, op := Go.Op.move (Go.Operand.tmp 7), type := 3, pos := "text.go:48", after := #[], guard := none },
  { dst := some 59, op := Go.Op.move (Go.Operand.tmp 8), type := 3, pos := "text.go:48", after := #[], guard := none },
  { dst := some 60, op := Go.Op.load 38 (Go.Operand.tmp 10), type := 38, pos := "text.go:48", after := #[], guard := none },
  { dst := some 61, op := Go.Op.build 40 #[(0, Go.Operand.tmp 53), (1, Go.Operand.tmp 56), (2, Go.Operand.tmp 57), (3, Go.Operand.tmp 58), (4, Go.Operand.tmp 59), (5, Go.Operand.tmp 60)], type := 40, pos := "text.go:48", after := #[{ on := 2, ground := Go.Ground.data }, { on := 5, ground := Go.Ground.data }, { on := 6, ground := Go.Ground.data }, { on := 7, ground := Go.Ground.data }, { on := 8, ground := Go.Ground.data }, { on := 9, ground := Go.Ground.data }], guard := none },
  { dst := some 12, op := Go.Op.alloc 40, type := 0, pos := "text.go:48", after := #[], guard := none },
  { dst := none, op := Go.Op.store 40 (Go.Operand.tmp 12) (Go.Operand.tmp 61), type := 0, pos := "text.go:48", after := #[{ on := 11, ground := Go.Ground.data }, { on := 10, ground := Go.Ground.data }, { on := 0, ground := Go.Ground.phase }, { on := 1, ground := Go.Ground.phase }, { on := 2, ground := Go.Ground.phase }, { on := 3, ground := Go.Ground.phase }, { on := 4, ground := Go.Ground.phase }, { on := 5, ground := Go.Ground.phase }, { on := 6, ground := Go.Ground.phase }, { on := 7, ground := Go.Ground.phase }, { on := 8, ground := Go.Ground.phase }, { on := 9, ground := Go.Ground.phase }, { on := 10, ground := Go.Ground.phase }, { on := 11, ground := Go.Ground.phase }], guard := none }]
theorem ops_35_10_0 : ops_35_10[0]? = some ({ dst := some 51, op := Go.Op.move (Go.Operand.tmp 4), type := 52, pos := "text.go:48", after := #[], guard := none } : Go.Oper) := rfl
theorem ops_35_10_1 : ops_35_10[1]? = some ({ dst := some 52, op := Go.Op.indexAddr 52 (Go.Operand.tmp 51) (Go.Operand.const (Go.Value.int Go.IntKind.i64 0)), type := 0, pos := "text.go:48", after := #[{ on := 0, ground := Go.Ground.data }], guard := none } : Go.Oper) := rfl
theorem ops_35_10_2 : ops_35_10[2]? = some ({ dst := some 53, op := Go.Op.load 9 (Go.Operand.tmp 52), type := 9, pos := "text.go:48", after := #[{ on := 1, ground := Go.Ground.data }], guard := none } : Go.Oper) := rfl
theorem ops_35_10_3 : ops_35_10[3]? = some ({ dst := some 54, op := Go.Op.move (Go.Operand.tmp 4), type := 52, pos := "text.go:48", after := #[], guard := none } : Go.Oper) := rfl
theorem ops_35_10_4 : ops_35_10[4]? = some ({ dst := some 55, op := Go.Op.indexAddr 52 (Go.Operand.tmp 54) (Go.Operand.const (Go.Value.int Go.IntKind.i64 1)), type := 0, pos := "text.go:48", after := #[{ on := 3, ground := Go.Ground.data }], guard := none } : Go.Oper) := rfl
theorem ops_35_10_5 : ops_35_10[5]? = some ({ dst := some 56, op := Go.Op.load 9 (Go.Operand.tmp 55), type := 9, pos := "text.go:48", after := #[{ on := 4, ground := Go.Ground.data }], guard := none } : Go.Oper) := rfl
theorem ops_35_10_6 : ops_35_10[6]? = some ({ dst := some 57, op := Go.Op.move (Go.Operand.tmp 6), type := 9, pos := "text.go:48", after := #[], guard := none } : Go.Oper) := rfl
theorem ops_35_10_7 : ops_35_10[7]? = some ({ dst := some 58, op := Go.Op.move (Go.Operand.tmp 7), type := 3, pos := "text.go:48", after := #[], guard := none } : Go.Oper) := rfl
theorem ops_35_10_8 : ops_35_10[8]? = some ({ dst := some 59, op := Go.Op.move (Go.Operand.tmp 8), type := 3, pos := "text.go:48", after := #[], guard := none } : Go.Oper) := rfl
theorem ops_35_10_9 : ops_35_10[9]? = some ({ dst := some 60, op := Go.Op.load 38 (Go.Operand.tmp 10), type := 38, pos := "text.go:48", after := #[], guard := none } : Go.Oper) := rfl
theorem ops_35_10_10 : ops_35_10[10]? = some ({ dst := some 61, op := Go.Op.build 40 #[(0, Go.Operand.tmp 53), (1, Go.Operand.tmp 56), (2, Go.Operand.tmp 57), (3, Go.Operand.tmp 58), (4, Go.Operand.tmp 59), (5, Go.Operand.tmp 60)], type := 40, pos := "text.go:48", after := #[{ on := 2, ground := Go.Ground.data }, { on := 5, ground := Go.Ground.data }, { on := 6, ground := Go.Ground.data }, { on := 7, ground := Go.Ground.data }, { on := 8, ground := Go.Ground.data }, { on := 9, ground := Go.Ground.data }], guard := none } : Go.Oper) := rfl
theorem ops_35_10_11 : ops_35_10[11]? = some ({ dst := some 12, op := Go.Op.alloc 40, type := 0, pos := "text.go:48", after := #[], guard := none } : Go.Oper) := rfl
theorem ops_35_10_12 : ops_35_10[12]? = some ({ dst := none, op := Go.Op.store 40 (Go.Operand.tmp 12) (Go.Operand.tmp 61), type := 0, pos := "text.go:48", after := #[{ on := 11, ground := Go.Ground.data }, { on := 10, ground := Go.Ground.data }, { on := 0, ground := Go.Ground.phase }, { on := 1, ground := Go.Ground.phase }, { on := 2, ground := Go.Ground.phase }, { on := 3, ground := Go.Ground.phase }, { on := 4, ground := Go.Ground.phase }, { on := 5, ground := Go.Ground.phase }, { on := 6, ground := Go.Ground.phase }, { on := 7, ground := Go.Ground.phase }, { on := 8, ground := Go.Ground.phase }, { on := 9, ground := Go.Ground.phase }, { on := 10, ground := Go.Ground.phase }, { on := 11, ground := Go.Ground.phase }], guard := none } : Go.Oper) := rfl
theorem ops_35_10_ns : Go.Region.noSelect ops_35_10 = true := by kernel_rfl
set_option maxRecDepth 100000 in
set_option maxHeartbeats 8000000 in
theorem parse_calls (s : ByteArray) (w : World) (hs : s.size ≤ 950) (hG : GlobT w) :
    Calls Tryz.prog 35 #[.string s] w fun e w' => ∃ r, e = .returned (.tuple #[rlV r, .bool (ruleB s)]) ∧ (ruleB s = true → r = ruleL s) ∧ Below w.heap.size w w' := by
  have hb0 := below_alloc w (.cells #[.string ⟨#[]⟩, .string ⟨#[]⟩, .string ⟨#[]⟩, .int .i64 0, .int .i64 0, .int .i64 0, .int .i64 0] 40)
  have hx0 := heap_alloc_new w (.cells #[.string ⟨#[]⟩, .string ⟨#[]⟩, .string ⟨#[]⟩, .int .i64 0, .int .i64 0, .int .i64 0, .int .i64 0] 40)
  have Hx := Lib.hid hx0
  have HG := Lib.hid (fun w' (hb : Below w.heap.size w w') => hG.below hb)
  clear hx0
  cases hg : goodW s with
  | false =>
    have C1 := Lib.hid (fun w' (hb : Below w.heap.size w w') => wordsBad_calls s w' (by omega) (hG.below hb) hg)
    have HB := Lib.hid (show ruleB s = false by unfold ruleB formB; rw [hg]; rfl)
    clear hg hs hG
    go_enter Tryz.func35, Tryz.ntmps35
    go_wp2_with fail
    refine (C1.out _ hb0).mono ?_
    rintro e w1 ⟨rfl, hb1⟩
    have hx1 := cells_later Hx.out hb1
    have f0 := free_of hx1 0
    have f1 := free_of hx1 1
    have f2 := free_of hx1 2
    have f3 := free_of hx1 3
    have f4 := free_of hx1 4
    have f5 := free_of hx1 5
    have f6 := free_of hx1 6
    have g0 := cell_at hx1 0 rfl
    have g1 := cell_at hx1 1 rfl
    have g2 := cell_at hx1 2 rfl
    have g3 := cell_at hx1 3 rfl
    have g4 := cell_at hx1 4 rfl
    have g5 := cell_at hx1 5 rfl
    have g6 := cell_at hx1 6 rfl
    have Hb1 := Lib.hid (below_step hb0 hb1)
    clear hb0 hb1 hx1 C1
    go_wp2_with fail
    try simp only [Exit.inBlock, Exit.then]
    refine bodyPost_ret (v := .tuple #[.agg #[.string ⟨#[]⟩, .string ⟨#[]⟩, .string ⟨#[]⟩, .int .i64 0, .int .i64 0, .int .i64 0, .int .i64 0], .bool false]) ?_ rfl ⟨⟨⟨#[]⟩, ⟨#[]⟩, ⟨#[]⟩, 0, 0, 0, 0⟩, by rw [HB.out]; rfl, fun h => by rw [HB.out] at h; (cases h), (((((((Hb1.out.setCell (p := ⟨w.heap.size, 0, none⟩) (Nat.le_refl _) _).setCell (p := ⟨w.heap.size, 1, none⟩) (Nat.le_refl _) _).setCell (p := ⟨w.heap.size, 2, none⟩) (Nat.le_refl _) _).setCell (p := ⟨w.heap.size, 3, none⟩) (Nat.le_refl _) _).setCell (p := ⟨w.heap.size, 4, none⟩) (Nat.le_refl _) _).setCell (p := ⟨w.heap.size, 5, none⟩) (Nat.le_refl _) _).setCell (p := ⟨w.heap.size, 6, none⟩) (Nat.le_refl _) _)⟩
    rw [results_cell_tmp rfl]
    go_simp
  | true =>
    have C1 := Lib.hid (fun w' (hb : Below w.heap.size w w') => wordsGood_calls s w' (by omega) (hG.below hb) hg)
    have hsz := splitB_size ⟨#[32]⟩ (Lib.countB s ⟨#[32]⟩) s
    have Hsz := Lib.hid (show ∀ i, (strAt (wsL s) i).size ≤ s.size from fun i => strAt_size hsz i)
    have HB := Lib.hid (show ruleB s = (decide ((wsL s).length = 6) && (decide (0 < kindI (strAt (wsL s) 3)) && (numV (strAt (wsL s) 4).data.toList).isSome && (fracV (strAt (wsL s) 5).data.toList).isSome)) by unfold ruleB formB; rw [hg]; rfl)
    have HL := Lib.hid (show ruleL s = ⟨strAt (wsL s) 0, strAt (wsL s) 1, undashS (strAt (wsL s) 2), kindI (strAt (wsL s) 3), (numV (strAt (wsL s) 4).data.toList).getD 0, ((fracV (strAt (wsL s) 5).data.toList).getD (0, 0)).1, ((fracV (strAt (wsL s) 5).data.toList).getD (0, 0)).2⟩ from rfl)
    generalize wsL s = P at C1 Hsz HB HL
    clear hsz hg hG
    by_cases h6 : P.length = 6
    · simp only [h6] at C1
      rw [decide_eq_true h6, Bool.true_and] at HB
      have Hs0 := Lib.hid (show ∀ i, (strAt P i).size ≤ 1000 from fun i => Nat.le_trans (Hsz.out i) (by omega))
      have h6' := h6
      clear Hsz hs h6
      go_enter Tryz.func35, Tryz.ntmps35
      go_wp2_with fail
      refine (C1.out _ hb0).mono ?_
      rintro e w1 ⟨rfl, hK, hb1⟩
      simp only [World.size_alloc] at hK ⊢
      obtain ⟨hlo, hc⟩ := six_cells hK h6'
      have hx1 := cells_later Hx.out hb1
      have hb01 := below_step hb0 hb1
      obtain ⟨g, hg⟩ : ∃ g, g = w.heap.size + 1 := ⟨_, rfl⟩
      rw [← hg] at hc ⊢
      have hgw : w.heap.size < g := by omega
      have y0 := hc 0 (by omega)
      have y1 := hc 1 (by omega)
      have y2 := hc 2 (by omega)
      have y3 := hc 3 (by omega)
      have y4 := hc 4 (by omega)
      have y5 := hc 5 (by omega)
      have s4 := Hs0.out 4
      have s5 := Hs0.out 5
      generalize strAt P 0 = k0 at y0 HL
      generalize strAt P 1 = k1 at y1 HL
      generalize strAt P 2 = k2 at y2 HL
      generalize strAt P 3 = k3 at y3 HL HB
      generalize strAt P 4 = k4 at y4 HL HB s4
      generalize strAt P 5 = k5 at y5 HL HB s5
      have Hx1 := Lib.hid hx1
      have Hb01 := Lib.hid hb01
      have Hgw := Lib.hid hgw
      clear hb0 hb1 hx1 hK hlo hc hg C1 Hs0 h6' hb01 hgw
      go_upto_if 30 with fail
      go_cut [6] from 26 to 30 (fun p wc => p = .string (undashS k2) ∧ w1 = wc)
      case first =>
        have e45 : (⟨#[45]⟩ : ByteArray).toList = [45] := by decide +kernel
        have HU := Lib.hid (show undashS k2 = if (k2.toList == [45]) = true then ⟨#[]⟩ else k2 by unfold undashS beqS; rw [e45])
        clear e45 HL HB
        cases hq : (k2.toList == [45]) with
        | true =>
          have HU2 := Lib.hid (show undashS k2 = ⟨#[]⟩ by rw [HU.out, if_pos hq])
          clear HU
          go_wp2_with fail
          go_meet
          case rel => exact ⟨by rw [HU2.out], rfl⟩
        | false =>
          have HU2 := Lib.hid (show undashS k2 = k2 by rw [HU.out, if_neg (by rw [hq]; decide)])
          clear HU
          go_wp2_with fail
          go_meet
          case rel => exact ⟨by rw [HU2.out], rfl⟩
      case rest =>
      obtain ⟨rfl, rfl⟩ := hcut
      obtain ⟨u2, hu2⟩ : ∃ u2, u2 = undashS k2 := ⟨_, rfl⟩
      rw [← hu2] at HL ⊢
      obtain ⟨W, hW⟩ : ∃ W, W = w1 := ⟨_, rfl⟩
      rw [← hW] at y0 y1 y2 y3 y4 y5 Hx1 Hb01 ⊢
      clear hW hu2 w1
      have HY := Lib.hid (show ∀ w', Below W.heap.size W w' → w'.cell? ⟨g, 0, none⟩ = some (.string k0) ∧ w'.cell? ⟨g, 1, none⟩ = some (.string k1) ∧ w'.cell? ⟨g, 3, none⟩ = some (.string k3) ∧ w'.cell? ⟨g, 4, none⟩ = some (.string k4) ∧ w'.cell? ⟨g, 5, none⟩ = some (.string k5) from fun w' hb => ⟨below_cell hb y0, below_cell hb y1, below_cell hb y3, below_cell hb y4, below_cell hb y5⟩)
      have HS7 := Lib.hid (show ∀ w', Below W.heap.size W w' → (Below W.heap.size W w' ∧ w'.cell? ⟨g, 3, none⟩ = some (.string k3)) from fun w' hb => ⟨hb, below_cell hb y3⟩)
      have hkb := kindI_bound k3
      have hkw : IntKind.i64.wrap (kindI k3 - 1 + 1) = kindI k3 := by rw [IntWalk.i64_in _ (by omega)]; omega
      have hkw2 : IntKind.i64.wrap (kindI k3) = kindI k3 := IntWalk.i64_in _ (by omega)
      have hb0 := (Below.refl W.heap.size W).drew
      clear y0 y1 y2 y3 y4 y5
      go_upto_region 7 with fail
      show Code.wp _ (Code.region 7 ops_35_7 true) _ _ _
      refine region_start 7 (fun w' => Below W.heap.size W w' ∧ w'.cell? ⟨g, 3, none⟩ = some (.string k3)) (by kernel_rfl) rfl ?_ (fun hHeld => ?_)
      · (exact HS7.out _ (by first | assumption | exact hHeld.1 | exact below_step hHeld.1 (by assumption) | exact below_step hHeld.1 (below_alloc _ _)))
      refine take_to 1 32 #[false, true, false, false, false, false, false] (v := ?_) ops_35_7_1 rfl ops_35_7_ns (by kernel_rfl) (by kernel_rfl) (fun _ _ _ h => h) (by rfl) ?y1 (by assumption) ?_
      case y1 =>
        intro w hSw
        try dsimp only at hSw
        go_simp
        try with_reducible rfl
      simp only [List.set_cons_zero, List.set_cons_succ]
      refine take_to 2 33 #[false, true, true, false, false, false, false] (v := ?_) ops_35_7_2 rfl ops_35_7_ns (by kernel_rfl) (by kernel_rfl) (fun _ _ _ h => h) (by rfl) ?y2 (by assumption) ?_
      case y2 =>
        intro w hSw
        try dsimp only at hSw
        go_simp
        try with_reducible rfl
      simp only [List.set_cons_zero, List.set_cons_succ]
      refine take_to 3 34 #[false, true, true, true, false, false, false] (v := ?_) ops_35_7_3 rfl ops_35_7_ns (by kernel_rfl) (by kernel_rfl) (fun _ _ _ h => h) (by rfl) ?y3 (by assumption) ?_
      case y3 =>
        intro w hSw
        try dsimp only at hSw
        go_simp
        try with_reducible rfl
      simp only [List.set_cons_zero, List.set_cons_succ]
      refine run_to 0 #[true, true, true, true, false, false, false] ops_35_7_0 (by kernel_rfl) (by kernel_rfl) (by rfl) (fun K hK => ?_)
      go_simp
      refine (kinds_calls _).mono ?_
      rintro e wk ⟨rfl, hwk⟩
      have hb' := below_alloc W.drew (.cells (kindsL.map Value.string).toArray 9)
      have hbk : Below W.heap.size W wk := by rw [hwk]; exact below_step (Below.refl W.heap.size W).drew hb'
      have HIx := Lib.hid (show Calls Tryz.prog 42 #[.slice (some ⟨W.drew.heap.size, 0, none⟩) 4 4, .string k3] wk (fun e w' => e = .returned (.int .i64 (kindI k3 - 1)) ∧ wk = w') from by rw [hwk]; exact kindIx_calls W.drew k3)
      clear hwk hb'
      go_wp2_with fail
      refine hK.out _ _ ?_ (fun hHeld => ?_)
      · (exact HS7.out _ (by first | assumption | exact hHeld.1 | exact below_step hHeld.1 (by assumption) | exact below_step hHeld.1 (below_alloc _ _)))
      clear hK K
      try simp only [Act.put, List.setIfInBounds_toArray, List.set_cons_zero, List.set_cons_succ]
      refine run_to 4 #[true, true, true, true, true, false, false] ops_35_7_4 (by kernel_rfl) (by kernel_rfl) (by rfl) (fun K hK => ?_)
      go_simp
      refine HIx.out.mono ?_
      rintro e w' ⟨rfl, rfl⟩
      go_wp2_with fail
      refine hK.out _ _ ?_ (fun hHeld => ?_)
      · (exact HS7.out _ (by first | assumption | exact hHeld.1 | exact below_step hHeld.1 (by assumption) | exact below_step hHeld.1 (below_alloc _ _)))
      clear hK K
      try simp only [Act.put, List.setIfInBounds_toArray, List.set_cons_zero, List.set_cons_succ]
      refine take_to 5 36 #[true, true, true, true, true, true, false] (v := ?_) ops_35_7_5 rfl ops_35_7_ns (by kernel_rfl) (by kernel_rfl) (fun _ _ _ h => h) (by rfl) ?y5 (by assumption) ?_
      case y5 =>
        intro w hSw
        try dsimp only at hSw
        go_simp
        try with_reducible rfl
      simp only [List.set_cons_zero, List.set_cons_succ]
      refine take_to 6 7 #[true, true, true, true, true, true, true] (v := ?_) ops_35_7_6 rfl ops_35_7_ns (by kernel_rfl) (by kernel_rfl) (fun _ _ _ h => h) (by rfl) ?y6 (by assumption) ?_
      case y6 =>
        intro w hSw
        try dsimp only at hSw
        go_simp
        try with_reducible rfl
      simp only [List.set_cons_zero, List.set_cons_succ]
      refine wpAnyH_done (by kernel_rfl) ?_ _
      have hbz := hHeld.1
      clear hHeld hb0 hkw hkw2 hbk
      obtain ⟨-, -, -, y4, -⟩ := HY.out _ hbz
      have C2 := Lib.hid (number_calls k4 wk (HG.out wk (below_step Hb01.out hbz)))
      generalize (numV k4.data.toList).isSome = b4 at HB C2
      generalize (numV k4.data.toList).getD 0 = n4 at HL C2
      have Hbz := Lib.hid hbz
      clear hbz
      go_wp2_with fail
      refine C2.out.mono ?_
      rintro e w2 ⟨rfl, hb2⟩
      have hb02 := below_step Hbz.out hb2
      obtain ⟨-, -, -, -, y5⟩ := HY.out _ hb02
      have C3 := Lib.hid (fracRead_calls k5 w2 (by omega) (HG.out w2 (below_step Hb01.out hb02)))
      generalize (fracV k5.data.toList).isSome = b5 at HB C3
      generalize (fracV k5.data.toList).getD (0, 0) = f5 at HL C3
      obtain ⟨n5, d5⟩ := f5
      unfold frV at C3
      have Hb02 := Lib.hid hb02
      clear hb2 hb02 C2 y4 Hbz
      go_wp2_with fail
      refine C3.out.mono ?_
      rintro e w3 ⟨rfl, hb3⟩
      have Hb03 := Lib.hid (below_step Hb02.out hb3)
      clear hb3 C3 y5 Hb02
      go_upto_region 10 with fail
      obtain ⟨V, hV⟩ : ∃ V, V = w3.alloc (.cells #[.int .i64 n5, .int .i64 d5] 38) := ⟨_, rfl⟩
      obtain ⟨F, hF⟩ : ∃ F, F = w3.heap.size := ⟨_, rfl⟩
      have hf : V.heap[F]? = some (.cells #[.int .i64 n5, .int .i64 d5] 38 (0, 0)) := by rw [hV, hF]; exact heap_alloc_new w3 _
      have hWV : Below W.heap.size W V := by rw [hV]; exact below_step Hb03.out (below_alloc w3 _)
      rw [← hV, ← hF]
      have HWV := Lib.hid hWV
      have HS10 := Lib.hid (show ∀ w', Below V.heap.size V w' → (Below V.heap.size V w' ∧ w'.cell? ⟨g, 0, none⟩ = some (.string k0) ∧ w'.cell? ⟨g, 1, none⟩ = some (.string k1) ∧ w'.cell? ⟨F, 0, none⟩ = some (.int .i64 n5) ∧ w'.cell? ⟨F, 1, none⟩ = some (.int .i64 d5)) from fun w' hb => ⟨hb, (HY.out w' (below_step hWV hb)).1, (HY.out w' (below_step hWV hb)).2.1, below_cell hb (cell_at hf 0 rfl), below_cell hb (cell_at hf 1 rfl)⟩)
      have hb0 := (Below.refl V.heap.size V).drew
      clear hV hF hf hWV Hb03
      show Code.wp _ (Code.region 10 ops_35_10 true) _ _ _
      refine region_start 13 (fun w' => Below V.heap.size V w' ∧ w'.cell? ⟨g, 0, none⟩ = some (.string k0) ∧ w'.cell? ⟨g, 1, none⟩ = some (.string k1) ∧ w'.cell? ⟨F, 0, none⟩ = some (.int .i64 n5) ∧ w'.cell? ⟨F, 1, none⟩ = some (.int .i64 d5)) (by kernel_rfl) rfl ?_ (fun hHeld => ?_)
      · (exact HS10.out _ (by first | assumption | exact hHeld.1 | exact below_step hHeld.1 (below_alloc _ _) | exact below_set7 hHeld.1 (Nat.le_refl _) _ _ _ _ _ _ _))
      refine take_to 0 51 #[true, false, false, false, false, false, false, false, false, false, false, false, false] (v := ?_) ops_35_10_0 rfl ops_35_10_ns (by kernel_rfl) (by kernel_rfl) (fun _ _ _ h => h) (by rfl) ?y0 (by assumption) ?_
      case y0 =>
        intro w hSw
        try dsimp only at hSw
        go_simp
        try with_reducible rfl
      simp only [List.set_cons_zero, List.set_cons_succ]
      refine take_to 1 52 #[true, true, false, false, false, false, false, false, false, false, false, false, false] (v := ?_) ops_35_10_1 rfl ops_35_10_ns (by kernel_rfl) (by kernel_rfl) (fun _ _ _ h => h) (by rfl) ?y1 (by assumption) ?_
      case y1 =>
        intro w hSw
        try dsimp only at hSw
        go_simp
        try with_reducible rfl
      simp only [List.set_cons_zero, List.set_cons_succ]
      refine take_to 2 53 #[true, true, true, false, false, false, false, false, false, false, false, false, false] (v := ?_) ops_35_10_2 rfl ops_35_10_ns (by kernel_rfl) (by kernel_rfl) (fun _ _ _ h => h) (by rfl) ?y2 (by assumption) ?_
      case y2 =>
        intro w hSw
        try dsimp only at hSw
        go_simp
        try with_reducible rfl
      simp only [List.set_cons_zero, List.set_cons_succ]
      refine take_to 3 54 #[true, true, true, true, false, false, false, false, false, false, false, false, false] (v := ?_) ops_35_10_3 rfl ops_35_10_ns (by kernel_rfl) (by kernel_rfl) (fun _ _ _ h => h) (by rfl) ?y3 (by assumption) ?_
      case y3 =>
        intro w hSw
        try dsimp only at hSw
        go_simp
        try with_reducible rfl
      simp only [List.set_cons_zero, List.set_cons_succ]
      refine take_to 4 55 #[true, true, true, true, true, false, false, false, false, false, false, false, false] (v := ?_) ops_35_10_4 rfl ops_35_10_ns (by kernel_rfl) (by kernel_rfl) (fun _ _ _ h => h) (by rfl) ?y4 (by assumption) ?_
      case y4 =>
        intro w hSw
        try dsimp only at hSw
        go_simp
        try with_reducible rfl
      simp only [List.set_cons_zero, List.set_cons_succ]
      refine take_to 5 56 #[true, true, true, true, true, true, false, false, false, false, false, false, false] (v := ?_) ops_35_10_5 rfl ops_35_10_ns (by kernel_rfl) (by kernel_rfl) (fun _ _ _ h => h) (by rfl) ?y5 (by assumption) ?_
      case y5 =>
        intro w hSw
        try dsimp only at hSw
        go_simp
        try with_reducible rfl
      simp only [List.set_cons_zero, List.set_cons_succ]
      refine take_to 6 57 #[true, true, true, true, true, true, true, false, false, false, false, false, false] (v := ?_) ops_35_10_6 rfl ops_35_10_ns (by kernel_rfl) (by kernel_rfl) (fun _ _ _ h => h) (by rfl) ?y6 (by assumption) ?_
      case y6 =>
        intro w hSw
        try dsimp only at hSw
        go_simp
        try with_reducible rfl
      simp only [List.set_cons_zero, List.set_cons_succ]
      refine take_to 7 58 #[true, true, true, true, true, true, true, true, false, false, false, false, false] (v := ?_) ops_35_10_7 rfl ops_35_10_ns (by kernel_rfl) (by kernel_rfl) (fun _ _ _ h => h) (by rfl) ?y7 (by assumption) ?_
      case y7 =>
        intro w hSw
        try dsimp only at hSw
        go_simp
        try with_reducible rfl
      simp only [List.set_cons_zero, List.set_cons_succ]
      refine take_to 8 59 #[true, true, true, true, true, true, true, true, true, false, false, false, false] (v := ?_) ops_35_10_8 rfl ops_35_10_ns (by kernel_rfl) (by kernel_rfl) (fun _ _ _ h => h) (by rfl) ?y8 (by assumption) ?_
      case y8 =>
        intro w hSw
        try dsimp only at hSw
        go_simp
        try with_reducible rfl
      simp only [List.set_cons_zero, List.set_cons_succ]
      refine take_to 9 60 #[true, true, true, true, true, true, true, true, true, true, false, false, false] (v := ?_) ops_35_10_9 rfl ops_35_10_ns (by kernel_rfl) (by kernel_rfl) (fun _ _ _ h => h) (by rfl) ?y9 (by assumption) ?_
      case y9 =>
        intro w hSw
        try dsimp only at hSw
        go_simp
        try with_reducible rfl
      simp only [List.set_cons_zero, List.set_cons_succ]
      refine take_to 10 61 #[true, true, true, true, true, true, true, true, true, true, true, false, false] (v := ?_) ops_35_10_10 rfl ops_35_10_ns (by kernel_rfl) (by kernel_rfl) (fun _ _ _ h => h) (by rfl) ?y10 (by assumption) ?_
      case y10 =>
        intro w hSw
        try dsimp only at hSw
        go_simp
        try with_reducible rfl
      simp only [List.set_cons_zero, List.set_cons_succ]
      refine run_to 11 #[true, true, true, true, true, true, true, true, true, true, true, true, false] ops_35_10_11 (by kernel_rfl) (by kernel_rfl) (by rfl) (fun K hK => ?_)
      go_simp
      refine hK.out _ _ ?_ (fun hHeld => ?_)
      · (exact HS10.out _ (by first | assumption | exact hHeld.1 | exact below_step hHeld.1 (below_alloc _ _) | exact below_set7 hHeld.1 (Nat.le_refl _) _ _ _ _ _ _ _))
      clear hK K
      try simp only [Act.put, List.setIfInBounds_toArray, List.set_cons_zero, List.set_cons_succ]
      refine run_to 12 #[true, true, true, true, true, true, true, true, true, true, true, true, true] ops_35_10_12 (by kernel_rfl) (by kernel_rfl) (by rfl) (fun K hK => ?_)
      go_simp
      refine hK.out _ _ ?_ (fun hHeld => ?_)
      · (exact HS10.out _ (below_alloc V _).drew)
      clear hK K
      try simp only [List.setIfInBounds_toArray, List.set_cons_zero, List.set_cons_succ]
      refine wpAnyH_done (by kernel_rfl) ?_ _
      have hx4 := heap_alloc_new V (.cells #[.string k0, .string k1, .string u2, .int .i64 (kindI k3), .int .i64 n4, .int .i64 n5, .int .i64 d5] 40)
      have hbV := below_alloc V (.cells #[.string k0, .string k1, .string u2, .int .i64 (kindI k3), .int .i64 n4, .int .i64 n5, .int .i64 d5] 40)
      have hbw := below_step Hb01.out (below_step HWV.out hbV)
      have hxw : (V.alloc (.cells #[.string k0, .string k1, .string u2, .int .i64 (kindI k3), .int .i64 n4, .int .i64 n5, .int .i64 d5] 40)).heap[w.heap.size]? = some (.cells #[.string ⟨#[]⟩, .string ⟨#[]⟩, .string ⟨#[]⟩, .int .i64 0, .int .i64 0, .int .i64 0, .int .i64 0] 40 (0, 0)) := cells_later Hx1.out (below_step HWV.out hbV)
      obtain ⟨R, hR⟩ : ∃ R, R = V.heap.size := ⟨_, rfl⟩
      rw [← hR] at hx4 ⊢
      generalize V.alloc (.cells #[.string k0, .string k1, .string u2, .int .i64 (kindI k3), .int .i64 n4, .int .i64 n5, .int .i64 d5] 40) = Z at hx4 hbw hxw ⊢
      have hRw : w.heap.size < R := by have := lt_of_heap Hx1.out; have := HWV.out.size; have := Hb01.out.size; omega
      have z0 : Z.drew.cell? ⟨R, 0, none⟩ = some (.string k0) := cell_at hx4 0 rfl
      have z1 : Z.drew.cell? ⟨R, 1, none⟩ = some (.string k1) := cell_at hx4 1 rfl
      have z2 : Z.drew.cell? ⟨R, 2, none⟩ = some (.string u2) := cell_at hx4 2 rfl
      have z3 : Z.drew.cell? ⟨R, 3, none⟩ = some (.int .i64 (kindI k3)) := cell_at hx4 3 rfl
      have z4 : Z.drew.cell? ⟨R, 4, none⟩ = some (.int .i64 n4) := cell_at hx4 4 rfl
      have z5 : Z.drew.cell? ⟨R, 5, none⟩ = some (.int .i64 n5) := cell_at hx4 5 rfl
      have z6 : Z.drew.cell? ⟨R, 6, none⟩ = some (.int .i64 d5) := cell_at hx4 6 rfl
      have hx1 : Z.drew.heap[w.heap.size]? = _ := hxw
      have f0 := free_of hx1 0
      have f1 := free_of hx1 1
      have f2 := free_of hx1 2
      have f3 := free_of hx1 3
      have f4 := free_of hx1 4
      have f5 := free_of hx1 5
      have f6 := free_of hx1 6
      have g0 := cell_at hx1 0 rfl
      have g1 := cell_at hx1 1 rfl
      have g2 := cell_at hx1 2 rfl
      have g3 := cell_at hx1 3 rfl
      have g4 := cell_at hx1 4 rfl
      have g5 := cell_at hx1 5 rfl
      have g6 := cell_at hx1 6 rfl
      have Hbw := Lib.hid hbw.drew
      have hkb := kindI_bound k3
      clear hHeld hb0 hbV hbw hxw hx1 hx4 hR hRw Hx1 Hb01 HWV HS10 HS7 HY Hgw
      generalize Z.drew = Y at z0 z1 z2 z3 z4 z5 z6 f0 f1 f2 f3 f4 f5 f6 g0 g1 g2 g3 g4 g5 g6 Hbw ⊢
      have HRu := Lib.hid (show ruleL s = ⟨k0, k1, u2, kindI k3, n4, n5, d5⟩ from HL.out)
      generalize kindI k3 = kn at HB HRu hkb z3 ⊢
      clear HL
      by_cases hk0 : 0 < kn
      · rw [decide_eq_true hk0, Bool.true_and] at HB
        cases b4
        · cases b5
          · have HB' := Lib.hid (show ruleB s = false from HB.out)
            clear HB
            go_wp2_with fail
            try simp only [Exit.inBlock, Exit.then]
            refine bodyPost_ret (v := .tuple #[.agg #[.string k0, .string k1, .string u2, .int .i64 kn, .int .i64 n4, .int .i64 n5, .int .i64 d5], .bool false]) ?_ rfl ⟨⟨k0, k1, u2, kn, n4, n5, d5⟩, by rw [HB'.out]; rfl, fun _ => HRu.out.symm, (((((((Hbw.out.setCell (p := ⟨w.heap.size, 0, none⟩) (Nat.le_refl _) _).setCell (p := ⟨w.heap.size, 1, none⟩) (Nat.le_refl _) _).setCell (p := ⟨w.heap.size, 2, none⟩) (Nat.le_refl _) _).setCell (p := ⟨w.heap.size, 3, none⟩) (Nat.le_refl _) _).setCell (p := ⟨w.heap.size, 4, none⟩) (Nat.le_refl _) _).setCell (p := ⟨w.heap.size, 5, none⟩) (Nat.le_refl _) _).setCell (p := ⟨w.heap.size, 6, none⟩) (Nat.le_refl _) _)⟩
            rw [results_cell_tmp rfl]
            go_simp
          · have HB' := Lib.hid (show ruleB s = false from HB.out)
            clear HB
            go_wp2_with fail
            try simp only [Exit.inBlock, Exit.then]
            refine bodyPost_ret (v := .tuple #[.agg #[.string k0, .string k1, .string u2, .int .i64 kn, .int .i64 n4, .int .i64 n5, .int .i64 d5], .bool false]) ?_ rfl ⟨⟨k0, k1, u2, kn, n4, n5, d5⟩, by rw [HB'.out]; rfl, fun _ => HRu.out.symm, (((((((Hbw.out.setCell (p := ⟨w.heap.size, 0, none⟩) (Nat.le_refl _) _).setCell (p := ⟨w.heap.size, 1, none⟩) (Nat.le_refl _) _).setCell (p := ⟨w.heap.size, 2, none⟩) (Nat.le_refl _) _).setCell (p := ⟨w.heap.size, 3, none⟩) (Nat.le_refl _) _).setCell (p := ⟨w.heap.size, 4, none⟩) (Nat.le_refl _) _).setCell (p := ⟨w.heap.size, 5, none⟩) (Nat.le_refl _) _).setCell (p := ⟨w.heap.size, 6, none⟩) (Nat.le_refl _) _)⟩
            rw [results_cell_tmp rfl]
            go_simp
        · cases b5
          · have HB' := Lib.hid (show ruleB s = false from HB.out)
            clear HB
            go_wp2_with fail
            try simp only [Exit.inBlock, Exit.then]
            refine bodyPost_ret (v := .tuple #[.agg #[.string k0, .string k1, .string u2, .int .i64 kn, .int .i64 n4, .int .i64 n5, .int .i64 d5], .bool false]) ?_ rfl ⟨⟨k0, k1, u2, kn, n4, n5, d5⟩, by rw [HB'.out]; rfl, fun _ => HRu.out.symm, (((((((Hbw.out.setCell (p := ⟨w.heap.size, 0, none⟩) (Nat.le_refl _) _).setCell (p := ⟨w.heap.size, 1, none⟩) (Nat.le_refl _) _).setCell (p := ⟨w.heap.size, 2, none⟩) (Nat.le_refl _) _).setCell (p := ⟨w.heap.size, 3, none⟩) (Nat.le_refl _) _).setCell (p := ⟨w.heap.size, 4, none⟩) (Nat.le_refl _) _).setCell (p := ⟨w.heap.size, 5, none⟩) (Nat.le_refl _) _).setCell (p := ⟨w.heap.size, 6, none⟩) (Nat.le_refl _) _)⟩
            rw [results_cell_tmp rfl]
            go_simp
          · have HB' := Lib.hid (show ruleB s = true from HB.out)
            clear HB
            go_wp2_with fail
            try simp only [Exit.inBlock, Exit.then]
            refine bodyPost_ret (v := .tuple #[.agg #[.string k0, .string k1, .string u2, .int .i64 kn, .int .i64 n4, .int .i64 n5, .int .i64 d5], .bool true]) ?_ rfl ⟨⟨k0, k1, u2, kn, n4, n5, d5⟩, by rw [HB'.out]; rfl, fun _ => HRu.out.symm, (((((((Hbw.out.setCell (p := ⟨w.heap.size, 0, none⟩) (Nat.le_refl _) _).setCell (p := ⟨w.heap.size, 1, none⟩) (Nat.le_refl _) _).setCell (p := ⟨w.heap.size, 2, none⟩) (Nat.le_refl _) _).setCell (p := ⟨w.heap.size, 3, none⟩) (Nat.le_refl _) _).setCell (p := ⟨w.heap.size, 4, none⟩) (Nat.le_refl _) _).setCell (p := ⟨w.heap.size, 5, none⟩) (Nat.le_refl _) _).setCell (p := ⟨w.heap.size, 6, none⟩) (Nat.le_refl _) _)⟩
            rw [results_cell_tmp rfl]
            go_simp
      · rw [decide_eq_false hk0, Bool.false_and] at HB
        have HB' := Lib.hid (show ruleB s = false from HB.out)
        clear HB
        go_wp2_with fail
        try simp only [Exit.inBlock, Exit.then]
        refine bodyPost_ret (v := .tuple #[.agg #[.string k0, .string k1, .string u2, .int .i64 kn, .int .i64 n4, .int .i64 n5, .int .i64 d5], .bool false]) ?_ rfl ⟨⟨k0, k1, u2, kn, n4, n5, d5⟩, by rw [HB'.out]; rfl, fun _ => HRu.out.symm, (((((((Hbw.out.setCell (p := ⟨w.heap.size, 0, none⟩) (Nat.le_refl _) _).setCell (p := ⟨w.heap.size, 1, none⟩) (Nat.le_refl _) _).setCell (p := ⟨w.heap.size, 2, none⟩) (Nat.le_refl _) _).setCell (p := ⟨w.heap.size, 3, none⟩) (Nat.le_refl _) _).setCell (p := ⟨w.heap.size, 4, none⟩) (Nat.le_refl _) _).setCell (p := ⟨w.heap.size, 5, none⟩) (Nat.le_refl _) _).setCell (p := ⟨w.heap.size, 6, none⟩) (Nat.le_refl _) _)⟩
        rw [results_cell_tmp rfl]
        go_simp
    · have HB2 := Lib.hid (show ruleB s = false by rw [HB.out, decide_eq_false h6]; rfl)
      have e1 : ((P.length : Int) != 6) = true := by simp; omega
      clear h6 HB HL Hsz hs
      go_enter Tryz.func35, Tryz.ntmps35
      go_wp2_with fail
      refine (C1.out _ hb0).mono ?_
      rintro e w1 ⟨rfl, -, hb1⟩
      have hx1 := cells_later Hx.out hb1
      have f0 := free_of hx1 0
      have f1 := free_of hx1 1
      have f2 := free_of hx1 2
      have f3 := free_of hx1 3
      have f4 := free_of hx1 4
      have f5 := free_of hx1 5
      have f6 := free_of hx1 6
      have g0 := cell_at hx1 0 rfl
      have g1 := cell_at hx1 1 rfl
      have g2 := cell_at hx1 2 rfl
      have g3 := cell_at hx1 3 rfl
      have g4 := cell_at hx1 4 rfl
      have g5 := cell_at hx1 5 rfl
      have g6 := cell_at hx1 6 rfl
      have Hb1 := Lib.hid (below_step hb0 hb1)
      clear hb0 hb1 hx1 C1
      go_wp2_with fail
      try simp only [Exit.inBlock, Exit.then]
      refine bodyPost_ret (v := .tuple #[.agg #[.string ⟨#[]⟩, .string ⟨#[]⟩, .string ⟨#[]⟩, .int .i64 0, .int .i64 0, .int .i64 0, .int .i64 0], .bool false]) ?_ rfl ⟨⟨⟨#[]⟩, ⟨#[]⟩, ⟨#[]⟩, 0, 0, 0, 0⟩, by rw [HB2.out]; rfl, fun h => by rw [HB2.out] at h; (cases h), (((((((Hb1.out.setCell (p := ⟨w.heap.size, 0, none⟩) (Nat.le_refl _) _).setCell (p := ⟨w.heap.size, 1, none⟩) (Nat.le_refl _) _).setCell (p := ⟨w.heap.size, 2, none⟩) (Nat.le_refl _) _).setCell (p := ⟨w.heap.size, 3, none⟩) (Nat.le_refl _) _).setCell (p := ⟨w.heap.size, 4, none⟩) (Nat.le_refl _) _).setCell (p := ⟨w.heap.size, 5, none⟩) (Nat.le_refl _) _).setCell (p := ⟨w.heap.size, 6, none⟩) (Nat.le_refl _) _)⟩
      rw [results_cell_tmp rfl]
      go_simp
end Go.Proofs.YtmejjkicagkogaaGreatDoor
