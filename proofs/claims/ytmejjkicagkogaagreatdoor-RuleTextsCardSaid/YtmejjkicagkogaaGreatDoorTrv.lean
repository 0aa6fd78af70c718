/- A rule read out of a line, on the reference's side. -/
import Derived.Test.YtmejjkicagkogaaGreatDoorTru
import Derived.Test.YtmejjkicagkogaaGreatDoorSmk
import Derived.Test.YtmejjkicagkogaaGreatDoorSml
namespace Go.Proofs.YtmejjkicagkogaaGreatDoor
open Go.RowKit

def kindQ (k : ByteArray) : Int := Lib.idxOfS (⟨#[]⟩ :: kindsL) k
theorem idx_shift (x : ByteArray) : ∀ (zs : List ByteArray) (i : Nat), Lib.idxFromS zs x (i + 1) = if Lib.idxFromS zs x i = -1 then -1 else Lib.idxFromS zs x i + 1 := by
  intro zs
  induction zs with
  | nil => intro i; simp [Lib.idxFromS]
  | cons z zs ih =>
    intro i
    unfold Lib.idxFromS
    by_cases h : z = x
    · simp [h]
    · simp only [h, if_false]
      simpa using ih (i + 1)
theorem kindQ_eq {k : ByteArray} (h : k ≠ ⟨#[]⟩) : kindQ k = if kindI k = 0 then -1 else kindI k := by
  have h1 := idx_shift k kindsL 0
  have h2 : kindQ k = Lib.idxFromS kindsL k (0 + 1) := by
    unfold kindQ Lib.idxOfS
    rw [Lib.idxFromS]
    simp [Ne.symm h]
  rw [h2, h1]
  unfold kindI Lib.idxOfS
  by_cases h3 : Lib.idxFromS kindsL k 0 = -1
  · simp [h3]
  · have h4 : ¬ Lib.idxFromS kindsL k 0 + 1 = 0 := by omega
    simp [h3, h4]
theorem kindQ_at (w : World) (K : Nat) (k : ByteArray) (h : w.heap[K]? = some (.cells ((⟨#[]⟩ :: kindsL).map Value.string).toArray 9 (0, 0))) : Calls Tryz.prog 42 #[.slice (some ⟨K, 0, none⟩) 5 5, .string k] w fun e w' => e = .returned (.int .i64 (kindQ k)) ∧ w = w' := by
  refine (Tryz.slices_Index_string K 0 5 5 (⟨#[]⟩ :: kindsL) k _ (Nat.le_refl _) (by omega) fun j hj => ?_).mono fun e w' ⟨h1, h2⟩ => ⟨?_, h2.symm⟩
  · rw [cell_of_row w K _ _ _ _ h, Nat.zero_add, List.getElem?_toArray, List.getElem?_map, List.getElem?_eq_getElem hj]
    simp [List.getD, List.getElem?_eq_getElem hj]
  · rw [h1, show (⟨#[]⟩ :: kindsL).take 5 = ⟨#[]⟩ :: kindsL from rfl]
    rfl
theorem set7_heap {w : World} {X T : Nat} {b0 b1 b2 b3 b4 b5 b6 : Value} (h : w.heap[X]? = some (.cells #[b0, b1, b2, b3, b4, b5, b6] T (0, 0))) (a0 a1 a2 a3 a4 a5 a6 : Value) :
    (((((((w.setCell ⟨X, 0, none⟩ a0).setCell ⟨X, 1, none⟩ a1).setCell ⟨X, 2, none⟩ a2).setCell ⟨X, 3, none⟩ a3).setCell ⟨X, 4, none⟩ a4).setCell ⟨X, 5, none⟩ a5).setCell ⟨X, 6, none⟩ a6).heap[X]? = some (.cells #[a0, a1, a2, a3, a4, a5, a6] T (0, 0)) := by
  have st : ∀ (w : World) (cs : Array Value) (i : Nat) (a : Value), w.heap[X]? = some (.cells cs T (0, 0)) → (w.setCell ⟨X, i, none⟩ a).heap[X]? = some (.cells (cs.setIfInBounds i a) T (0, 0)) := by
    intro w cs i a h
    simp [World.setCell, Array.getElem?_modify, h]
  have h0 := st _ _ 0 a0 h
  have h1 := st _ _ 1 a1 h0
  have h2 := st _ _ 2 a2 h1
  have h3 := st _ _ 3 a3 h2
  have h4 := st _ _ 4 a4 h3
  have h5 := st _ _ 5 a5 h4
  have h6 := st _ _ 6 a6 h5
  simpa using h6
theorem share3 {A1 A2 A3 : Sort _} {C G : A1 → A2 → A3 → Prop} {R : Prop} (main : (∀ x1 x2 x3, C x1 x2 x3 → G x1 x2 x3) → R) (tail : ∀ x1 x2 x3, C x1 x2 x3 → G x1 x2 x3) : R := main tail
set_option maxHeartbeats 400000 in
theorem undash_calls (s : ByteArray) (w : World) : Calls Tryz.prog 41 #[.string s] w fun e w' => e = .returned (.string (undashS s)) ∧ w = w' := by
  have e45 : (⟨#[45]⟩ : ByteArray).toList = [45] := by decide +kernel
  have HU := Lib.hid (show undashS s = if (s.toList == [45]) = true then ⟨#[]⟩ else s by unfold undashS beqS; rw [e45])
  clear e45
  cases hq : (s.toList == [45]) with
  | true =>
    have HU2 := Lib.hid (show undashS s = ⟨#[]⟩ by rw [HU.out, if_pos hq])
    clear HU
    go_enter Tryz.func41, Tryz.ntmps41
    go_wp2_with fail
    go_ret
    exact ⟨by rw [HU2.out]; rfl, rfl⟩
  | false =>
    have HU2 := Lib.hid (show undashS s = s by rw [HU.out, if_neg (by rw [hq]; decide)])
    clear HU
    go_enter Tryz.func41, Tryz.ntmps41
    go_wp2_with fail
    go_ret
    exact ⟨by rw [HU2.out]; rfl, rfl⟩
/-- A variable in block O that holds rules, in memory of its own from base on. -/
def OutR (w : World) (base O : Nat) (L : List RD) : Prop := ∃ v, w.heap[O]? = some (.cells #[v] 26 (0, 0)) ∧ w.ownsRow base 40 7 v L.length (L.map rlRow).flatten
theorem OutR.below {w w' : World} {base O : Nat} {L : List RD} (h : OutR w base O L) (hb : Below w.heap.size w w') : OutR w' base O L := by
  obtain ⟨v, h1, h2⟩ := h
  exact ⟨v, (hb.block O (lt_of_heap h1)).trans h1, own_below h2 hb⟩
theorem kindQ_bound (k : ByteArray) : -1 ≤ kindQ k ∧ kindQ k ≤ 4 := by
  have := idx_bound k (⟨#[]⟩ :: kindsL) 0
  have e : (⟨#[]⟩ :: kindsL : List ByteArray).length = 5 := rfl
  rw [e] at this
  unfold kindQ Lib.idxOfS
  omega
theorem good_ne {s : ByteArray} (h : goodW s = true) {i : Nat} (hi : i < (wsL s).length) : strAt (wsL s) i ≠ ⟨#[]⟩ := by
  intro e
  have hc : cnS (wsL s) ⟨#[]⟩ = false := by unfold goodW at h; simpa using h
  have hm : strAt (wsL s) i ∈ wsL s := by
    have hk : (wsL s)[i]? = some ((wsL s)[i]'hi) := List.getElem?_eq_getElem hi
    rw [strAt_some hk]; exact List.getElem_mem _
  rw [e] at hm
  have := (Lib.containsS_iff (wsL s) ⟨#[]⟩).2 hm
  unfold cnS at hc
  rw [hc] at this; cases this
def ops_37_6 : Array Go.Oper := #[
  { dst := some 37, op := Go.Op.move (Go.Operand.tmp 4), type := 52, pos := "scores.go:450", after := #[], guard := none },
  { dst := some 38, op := Go.Op.indexAddr 52 (Go.Operand.tmp 37) (Go.Operand.const (Go.Value.int Go.IntKind.i64 0)), type := 0, pos := "scores.go:450", after := #[{ on := 0, ground := Go.Ground.data }], guard := none },
  { dst := some 39, op := Go.Op.load 9 (Go.Operand.tmp 38), type := 9, pos := "scores.go:450", after := #[{ on := 1, ground := Go.Ground.data }], guard := none },
  { dst := some 40, op := Go.Op.move (Go.Operand.tmp 4), type := 52, pos := "scores.go:450", after := #[], guard := none },
  { dst := some 41, op := Go.Op.indexAddr 52 (Go.Operand.tmp 40) (Go.Operand.const (Go.Value.int Go.IntKind.i64 1)), type := 0, pos := "scores.go:450", after := #[{ on := 3, ground := Go.Ground.data }], guard := none },
  { dst := some 42, op := Go.Op.load 9 (Go.Operand.tmp 41), type := 9, pos := "scores.go:450", after := #[{ on := 4, ground := Go.Ground.data }], guard := none },
  { dst := some 43, op := Go.Op.move (Go.Operand.tmp 4), type := 52, pos := "scores.go:450", after := #[], guard := none },
  { dst := some 44, op := Go.Op.indexAddr 52 (Go.Operand.tmp 43) (Go.Operand.const (Go.Value.int Go.IntKind.i64 2)), type := 0, pos := "scores.go:450", after := #[{ on := 6, ground := Go.Ground.data }], guard := none },
  { dst := some 45, op := Go.Op.load 9 (Go.Operand.tmp 44), type := 9, pos := "scores.go:450", after := #[{ on := 7, ground := Go.Ground.data }], guard := none },
  { dst := some 46, op := Go.Op.call { callee := Go.Callee.value (Go.Operand.func 41), args := #[Go.Operand.tmp 45], argTypes := #[9] }, type := 9, pos := "scores.go:450", after := #[{ on := 8, ground := Go.Ground.data }], guard := none },
  { dst := some 47, op := Go.Op.call { callee := Go.Callee.value (Go.Operand.func 32), args := #[], argTypes := #[] }, type := 52, pos := "scores.go:450", after := #[{ on := 9, ground := Go.Ground.chain }], guard := none },
  { dst := some 48, op := Go.Op.move (Go.Operand.tmp 4), type := 52, pos := "scores.go:450", after := #[], guard := none },
  { dst := some 49, op := Go.Op.indexAddr 52 (Go.Operand.tmp 48) (Go.Operand.const (Go.Value.int Go.IntKind.i64 3)), type := 0, pos := "scores.go:450", after := #[{ on := 11, ground := Go.Ground.data }], guard := none },
  { dst := some 50, op := Go.Op.load 9 (Go.Operand.tmp 49), type := 9, pos := "scores.go:450", after := #[{ on := 12, ground := Go.Ground.data }], guard := none },
  { dst := some 51, op := Go.Op.call { callee := Go.Callee.value (Go.Operand.func 42), args := #[Go.Operand.tmp 47, Go.Operand.tmp 50], argTypes := #[52, 9] }, type := 3, pos := "scores.go:450", after := #[{ on := 10, ground := Go.Ground.data }, { on := 13, ground := Go.Ground.data }, { on := 10, ground := Go.Ground.chain }], guard := none },
  { dst := some 52, op := Go.Op.move (Go.Operand.tmp 6), type := 3, pos := "scores.go:450", after := #[], guard := none },
  { dst := some 53, op := Go.Op.load 38 (Go.Operand.tmp 8), type := 38, pos := "scores.go:450", after := #[], guard := none },
  { dst := some 54, op := Go.Op.build 40 #[(0, Go.Operand.tmp 39), (1, Go.Operand.tmp 42), (2, Go.Operand.tmp 46), (3, Go.Operand.tmp 51), (4, Go.Operand.tmp 52), (5, Go.Operand.tmp 53)], type := 40, pos := "scores.go:450", after := #[{ on := 2, ground := Go.Ground.data }, { on := 5, ground := Go.Ground.data }, { on := 9, ground := Go.Ground.data }, { on := 14, ground := Go.Ground.data }, { on := 15, ground := Go.Ground.data }, { on := 16, ground := Go.Ground.data }], guard := none },
  { dst := some 10, op := Go.Op.alloc 40, type := 0, pos := "scores.go:450", after := #[], guard := none },
  { dst := none, op := Go.Op.store 40 (Go.Operand.tmp 10) (Go.Operand.tmp 54), type := 0, pos := "scores.go:450", after := #[{ on := 18, ground := Go.Ground.data }, { on := 17, ground := Go.Ground.data }, { on := 14, ground := Go.Ground.chain }, { on := 0, ground := Go.Ground.phase }, { on := 1, ground := Go.Ground.phase }, { on := 2, ground := Go.Ground.phase }, { on := 3, ground := Go.Ground.phase }, { on := 4, ground := Go.Ground.phase }, { on := 5, ground := Go.Ground.phase }, { on := 6, ground := Go.Ground.phase }, { on := 7, ground := Go.Ground.phase }, { on := 8, ground := Go.Ground.phase }, { on := 9, ground := Go.Ground.phase }, { on := 10, ground := Go.Ground.phase }, { on := 11, ground := Go.Ground.phase }, { on := 12, ground := Go.Ground.phase }, { on := 13, ground := Go.Ground.phase }, { on := 14, ground := Go.Ground.phase }, { on := 15, ground := Go.Ground.phase }, { on := 16, ground := Go.Ground.phase }, { on := 17, ground := Go.Ground.phase }, { on := 18, ground := Go.Ground.phase }], guard := none }]
theorem ops_37_6_0 : ops_37_6[0]? = some ({ dst := some 37, op := Go.Op.move (Go.Operand.tmp 4), type := 52, pos := "scores.go:450", after := #[], guard := none } : Go.Oper) := rfl
theorem ops_37_6_1 : ops_37_6[1]? = some ({ dst := some 38, op := Go.Op.indexAddr 52 (Go.Operand.tmp 37) (Go.Operand.const (Go.Value.int Go.IntKind.i64 0)), type := 0, pos := "scores.go:450", after := #[{ on := 0, ground := Go.Ground.data }], guard := none } : Go.Oper) := rfl
theorem ops_37_6_2 : ops_37_6[2]? = some ({ dst := some 39, op := Go.Op.load 9 (Go.Operand.tmp 38), type := 9, pos := "scores.go:450", after := #[{ on := 1, ground := Go.Ground.data }], guard := none } : Go.Oper) := rfl
theorem ops_37_6_3 : ops_37_6[3]? = some ({ dst := some 40, op := Go.Op.move (Go.Operand.tmp 4), type := 52, pos := "scores.go:450", after := #[], guard := none } : Go.Oper) := rfl
theorem ops_37_6_4 : ops_37_6[4]? = some ({ dst := some 41, op := Go.Op.indexAddr 52 (Go.Operand.tmp 40) (Go.Operand.const (Go.Value.int Go.IntKind.i64 1)), type := 0, pos := "scores.go:450", after := #[{ on := 3, ground := Go.Ground.data }], guard := none } : Go.Oper) := rfl
theorem ops_37_6_5 : ops_37_6[5]? = some ({ dst := some 42, op := Go.Op.load 9 (Go.Operand.tmp 41), type := 9, pos := "scores.go:450", after := #[{ on := 4, ground := Go.Ground.data }], guard := none } : Go.Oper) := rfl
theorem ops_37_6_6 : ops_37_6[6]? = some ({ dst := some 43, op := Go.Op.move (Go.Operand.tmp 4), type := 52, pos := "scores.go:450", after := #[], guard := none } : Go.Oper) := rfl
theorem ops_37_6_7 : ops_37_6[7]? = some ({ dst := some 44, op := Go.Op.indexAddr 52 (Go.Operand.tmp 43) (Go.Operand.const (Go.Value.int Go.IntKind.i64 2)), type := 0, pos := "scores.go:450", after := #[{ on := 6, ground := Go.Ground.data }], guard := none } : Go.Oper) := rfl
theorem ops_37_6_8 : ops_37_6[8]? = some ({ dst := some 45, op := Go.Op.load 9 (Go.Operand.tmp 44), type := 9, pos := "scores.go:450", after := #[{ on := 7, ground := Go.Ground.data }], guard := none } : Go.Oper) := rfl
theorem ops_37_6_9 : ops_37_6[9]? = some ({ dst := some 46, op := Go.Op.call { callee := Go.Callee.value (Go.Operand.func 41), args := #[Go.Operand.tmp 45], argTypes := #[9] }, type := 9, pos := "scores.go:450", after := #[{ on := 8, ground := Go.Ground.data }], guard := none } : Go.Oper) := rfl
theorem ops_37_6_10 : ops_37_6[10]? = some ({ dst := some 47, op := Go.Op.call { callee := Go.Callee.value (Go.Operand.func 32), args := #[], argTypes := #[] }, type := 52, pos := "scores.go:450", after := #[{ on := 9, ground := Go.Ground.chain }], guard := none } : Go.Oper) := rfl
theorem ops_37_6_11 : ops_37_6[11]? = some ({ dst := some 48, op := Go.Op.move (Go.Operand.tmp 4), type := 52, pos := "scores.go:450", after := #[], guard := none } : Go.Oper) := rfl
theorem ops_37_6_12 : ops_37_6[12]? = some ({ dst := some 49, op := Go.Op.indexAddr 52 (Go.Operand.tmp 48) (Go.Operand.const (Go.Value.int Go.IntKind.i64 3)), type := 0, pos := "scores.go:450", after := #[{ on := 11, ground := Go.Ground.data }], guard := none } : Go.Oper) := rfl
theorem ops_37_6_13 : ops_37_6[13]? = some ({ dst := some 50, op := Go.Op.load 9 (Go.Operand.tmp 49), type := 9, pos := "scores.go:450", after := #[{ on := 12, ground := Go.Ground.data }], guard := none } : Go.Oper) := rfl
theorem ops_37_6_14 : ops_37_6[14]? = some ({ dst := some 51, op := Go.Op.call { callee := Go.Callee.value (Go.Operand.func 42), args := #[Go.Operand.tmp 47, Go.Operand.tmp 50], argTypes := #[52, 9] }, type := 3, pos := "scores.go:450", after := #[{ on := 10, ground := Go.Ground.data }, { on := 13, ground := Go.Ground.data }, { on := 10, ground := Go.Ground.chain }], guard := none } : Go.Oper) := rfl
theorem ops_37_6_15 : ops_37_6[15]? = some ({ dst := some 52, op := Go.Op.move (Go.Operand.tmp 6), type := 3, pos := "scores.go:450", after := #[], guard := none } : Go.Oper) := rfl
theorem ops_37_6_16 : ops_37_6[16]? = some ({ dst := some 53, op := Go.Op.load 38 (Go.Operand.tmp 8), type := 38, pos := "scores.go:450", after := #[], guard := none } : Go.Oper) := rfl
theorem ops_37_6_17 : ops_37_6[17]? = some ({ dst := some 54, op := Go.Op.build 40 #[(0, Go.Operand.tmp 39), (1, Go.Operand.tmp 42), (2, Go.Operand.tmp 46), (3, Go.Operand.tmp 51), (4, Go.Operand.tmp 52), (5, Go.Operand.tmp 53)], type := 40, pos := "scores.go:450", after := #[{ on := 2, ground := Go.Ground.data }, { on := 5, ground := Go.Ground.data }, { on := 9, ground := Go.Ground.data }, { on := 14, ground := Go.Ground.data }, { on := 15, ground := Go.Ground.data }, { on := 16, ground := Go.Ground.data }], guard := none } : Go.Oper) := rfl
theorem ops_37_6_18 : ops_37_6[18]? = some ({ dst := some 10, op := Go.Op.alloc 40, type := 0, pos := "scores.go:450", after := #[], guard := none } : Go.Oper) := rfl
theorem ops_37_6_19 : ops_37_6[19]? = some ({ dst := none, op := Go.Op.store 40 (Go.Operand.tmp 10) (Go.Operand.tmp 54), type := 0, pos := "scores.go:450", after := #[{ on := 18, ground := Go.Ground.data }, { on := 17, ground := Go.Ground.data }, { on := 14, ground := Go.Ground.chain }, { on := 0, ground := Go.Ground.phase }, { on := 1, ground := Go.Ground.phase }, { on := 2, ground := Go.Ground.phase }, { on := 3, ground := Go.Ground.phase }, { on := 4, ground := Go.Ground.phase }, { on := 5, ground := Go.Ground.phase }, { on := 6, ground := Go.Ground.phase }, { on := 7, ground := Go.Ground.phase }, { on := 8, ground := Go.Ground.phase }, { on := 9, ground := Go.Ground.phase }, { on := 10, ground := Go.Ground.phase }, { on := 11, ground := Go.Ground.phase }, { on := 12, ground := Go.Ground.phase }, { on := 13, ground := Go.Ground.phase }, { on := 14, ground := Go.Ground.phase }, { on := 15, ground := Go.Ground.phase }, { on := 16, ground := Go.Ground.phase }, { on := 17, ground := Go.Ground.phase }, { on := 18, ground := Go.Ground.phase }], guard := none } : Go.Oper) := rfl
theorem ops_37_6_ns : Go.Region.noSelect ops_37_6 = true := by kernel_rfl
set_option maxRecDepth 100000 in
set_option maxHeartbeats 8000000 in
theorem ruleR1_calls (s : ByteArray) (O base : Nat) (L : List RD) (w : World) (hs : s.size ≤ 950) (hG : GlobT w) (hO : OutR w base O L) (hOb : O < base) (hbase : base ≤ w.heap.size) (hL : L.length ≤ 1000) :
    Calls Tryz.prog 37 #[.string s, .pointer (some ⟨O, 0, none⟩)] w fun e w' => ∃ L', e = .returned (.bool (ruleB s)) ∧ OutR w' base O L' ∧ L'.length ≤ L.length + 1 ∧ (ruleB s = true → L' = L ++ [ruleL s]) ∧ Below O w w' ∧ w.heap.size ≤ w'.heap.size := by
  obtain ⟨i0, hi, hz0, hz1, hz2⟩ := info_parts info_rl
  have HI := Lib.hid (And.intro hi (And.intro hz0 (And.intro hz1 hz2)))
  have HG := Lib.hid (fun w' (hb : Below w.heap.size w w') => hG.below hb)
  have C1 := Lib.hid (wordsR_calls s w (by omega) hG)
  have HO := Lib.hid hO
  have hOw : O < w.heap.size := by omega
  clear hi hz0 hz1 hz2 hG hO
  by_cases hg : formB s = true
  · have hg1 : goodW s = true := by unfold formB at hg; rw [Bool.and_eq_true] at hg; exact hg.1
    have h6 : (wsL s).length = 6 := by unfold formB at hg; rw [Bool.and_eq_true, decide_eq_true_eq] at hg; exact hg.2
    have hsz := splitB_size ⟨#[32]⟩ (Lib.countB s ⟨#[32]⟩) s
    have Hsz := Lib.hid (show ∀ i, (strAt (wsL s) i).size ≤ s.size from fun i => strAt_size hsz i)
    have HB := Lib.hid (show ruleB s = (decide (0 < kindI (strAt (wsL s) 3)) && (numV (strAt (wsL s) 4).data.toList).isSome && (fracV (strAt (wsL s) 5).data.toList).isSome) by unfold ruleB; rw [hg]; rfl)
    have HL := Lib.hid (show ruleL s = ⟨strAt (wsL s) 0, strAt (wsL s) 1, undashS (strAt (wsL s) 2), kindI (strAt (wsL s) 3), (numV (strAt (wsL s) 4).data.toList).getD 0, ((fracV (strAt (wsL s) 5).data.toList).getD (0, 0)).1, ((fracV (strAt (wsL s) 5).data.toList).getD (0, 0)).2⟩ from rfl)
    have HN3 := Lib.hid (good_ne hg1 (i := 3) (by omega))
    rw [hg1] at C1
    generalize wsL s = P at C1 Hsz HB HL HN3 h6
    simp only [h6] at C1
    have s4 := Hsz.out 4
    have s5 := Hsz.out 5
    have h6' := Lib.hid h6
    clear hsz hg hg1 Hsz h6
    go_enter Tryz.func37, Tryz.ntmps37
    go_wp2_with fail
    refine C1.out.mono ?_
    rintro e w1 ⟨rfl, hK, hb1⟩
    obtain ⟨hlo, hc⟩ := six_cells hK h6'.out
    obtain ⟨g, hg⟩ : ∃ g, g = w.heap.size := ⟨_, rfl⟩
    rw [← hg] at hc ⊢
    have y0 := hc 0 (by omega)
    have y1 := hc 1 (by omega)
    have y2 := hc 2 (by omega)
    have y3 := hc 3 (by omega)
    have y4 := hc 4 (by omega)
    have y5 := hc 5 (by omega)
    generalize strAt P 0 = k0 at y0 HL
    generalize strAt P 1 = k1 at y1 HL
    generalize strAt P 2 = k2 at y2 HL
    generalize strAt P 3 = k3 at y3 HL HB HN3
    generalize strAt P 4 = k4 at y4 HL HB s4
    generalize strAt P 5 = k5 at y5 HL HB s5
    have HY := Lib.hid (show ∀ w', Below w1.heap.size w1 w' → w'.cell? ⟨g, 0, none⟩ = some (.string k0) ∧ w'.cell? ⟨g, 1, none⟩ = some (.string k1) ∧ w'.cell? ⟨g, 2, none⟩ = some (.string k2) ∧ w'.cell? ⟨g, 3, none⟩ = some (.string k3) ∧ w'.cell? ⟨g, 5, none⟩ = some (.string k5) from fun w' hb => ⟨below_cell hb y0, below_cell hb y1, below_cell hb y2, below_cell hb y3, below_cell hb y5⟩)
    have Hb1 := Lib.hid hb1
    have C2 := Lib.hid (numberR_calls k4 w1 (by omega) (HG.out w1 hb1))
    have HE4 := Lib.hid (show ∀ n, (∀ m, numV k4.data.toList = some m → n = m) → (numV k4.data.toList).isSome = true → n = (numV k4.data.toList).getD 0 from fun n h1 h2 => by
      cases h : numV k4.data.toList with
      | none => rw [h] at h2; cases h2
      | some m => exact h1 m h)
    generalize hb4 : (numV k4.data.toList).isSome = b4 at HB C2 HE4
    generalize (numV k4.data.toList).getD 0 = e4 at HL HE4
    clear hK hlo hc hg C1 h6' hb1 y0 y1 y2 y3 y5 hb4
    go_wp2_with fail
    refine C2.out.mono ?_
    rintro e w2 ⟨n4, rfl, h64, hn4, hb2⟩
    have HN4 := Lib.hid (fun h => HE4.out n4 hn4 h)
    obtain ⟨-, -, -, -, y5⟩ := HY.out w2 hb2
    have C3 := Lib.hid (readFraction_calls k5 w2 (by omega) (HG.out w2 (below_step Hb1.out hb2)))
    have HE5 := Lib.hid (show ∀ f, SpellsF k5 f → (fracV k5.data.toList).isSome = true → f = (fracV k5.data.toList).getD (0, 0) from fun f h1 h2 => by
      cases h : fracV k5.data.toList with
      | none => rw [h] at h2; cases h2
      | some m => exact h1.2 m h)
    generalize hb5 : (fracV k5.data.toList).isSome = b5 at HB C3 HE5
    generalize (fracV k5.data.toList).getD (0, 0) = e5 at HL HE5
    have Hb2 := Lib.hid hb2
    clear hb2 y4 C2 HE4 hn4 h64 hb5
    go_wp2_with fail
    refine C3.out.mono ?_
    rintro e w3 ⟨⟨n5, d5⟩, rfl, hsf, hb3⟩
    have HN5 := Lib.hid (fun h => HE5.out (n5, d5) hsf h)
    have Hb3 := Lib.hid (below_step Hb2.out hb3)
    unfold frV
    clear hb3 hsf C3 HE5 y5
    go_upto_region 6 with fail
    obtain ⟨V, hV⟩ : ∃ V, V = w3.alloc (.cells #[.int .i64 n5, .int .i64 d5] 38) := ⟨_, rfl⟩
    obtain ⟨F, hF⟩ : ∃ F, F = w3.heap.size := ⟨_, rfl⟩
    have hf : V.heap[F]? = some (.cells #[.int .i64 n5, .int .i64 d5] 38 (0, 0)) := by rw [hV, hF]; exact heap_alloc_new w3 _
    have h1V : Below w1.heap.size w1 V := by rw [hV]; exact below_step Hb3.out (below_alloc w3 _)
    rw [← hV, ← hF]
    have H1V := Lib.hid h1V
    have HS6 := Lib.hid (show ∀ w', Below V.heap.size V w' → (Below V.heap.size V w' ∧ w'.cell? ⟨g, 0, none⟩ = some (.string k0) ∧ w'.cell? ⟨g, 1, none⟩ = some (.string k1) ∧ w'.cell? ⟨g, 2, none⟩ = some (.string k2) ∧ w'.cell? ⟨g, 3, none⟩ = some (.string k3) ∧ w'.cell? ⟨F, 0, none⟩ = some (.int .i64 n5) ∧ w'.cell? ⟨F, 1, none⟩ = some (.int .i64 d5)) from fun w' hb => ⟨hb, (HY.out w' (below_step h1V hb)).1, (HY.out w' (below_step h1V hb)).2.1, (HY.out w' (below_step h1V hb)).2.2.1, (HY.out w' (below_step h1V hb)).2.2.2.1, below_cell hb (cell_at hf 0 rfl), below_cell hb (cell_at hf 1 rfl)⟩)
    clear hV hF hf h1V Hb3 Hb2 HY
    apply share3 (C := fun (K R : Nat) (W' : World) => W'.heap[R]? = some (.cells #[.string k0, .string k1, .string (undashS k2), .int .i64 (kindQ k3), .int .i64 n4, .int .i64 n5, .int .i64 d5] 40 (0, 0)) ∧ Below V.heap.size V W' ∧ V.heap.size ≤ R)
    · intro tail
      show Code.wp _ (Code.region 6 ops_37_6 true) _ _ _
      refine region_start 20 (fun w' => Below V.heap.size V w' ∧ w'.cell? ⟨g, 0, none⟩ = some (.string k0) ∧ w'.cell? ⟨g, 1, none⟩ = some (.string k1) ∧ w'.cell? ⟨g, 2, none⟩ = some (.string k2) ∧ w'.cell? ⟨g, 3, none⟩ = some (.string k3) ∧ w'.cell? ⟨F, 0, none⟩ = some (.int .i64 n5) ∧ w'.cell? ⟨F, 1, none⟩ = some (.int .i64 d5)) (by kernel_rfl) rfl ?_ (fun hHeld => ?_)
      · (exact HS6.out _ (Below.refl V.heap.size V).drew)
      refine take_at 0 37 (v := ?_) ops_37_6_0 rfl ops_37_6_ns (by kernel_rfl) (by kernel_rfl) (fun _ _ _ h => h) (by rfl) ?y0 (by assumption) ?_
      case y0 =>
        intro w hSw
        try dsimp only at hSw
        go_simp
        try with_reducible rfl
      simp only [List.setIfInBounds_toArray, List.set_cons_zero, List.set_cons_succ]
      refine take_at 1 38 (v := ?_) ops_37_6_1 rfl ops_37_6_ns (by kernel_rfl) (by kernel_rfl) (fun _ _ _ h => h) (by rfl) ?y1 (by assumption) ?_
      case y1 =>
        intro w hSw
        try dsimp only at hSw
        go_simp
        try with_reducible rfl
      simp only [List.setIfInBounds_toArray, List.set_cons_zero, List.set_cons_succ]
      refine take_at 2 39 (v := ?_) ops_37_6_2 rfl ops_37_6_ns (by kernel_rfl) (by kernel_rfl) (fun _ _ _ h => h) (by rfl) ?y2 (by assumption) ?_
      case y2 =>
        intro w hSw
        try dsimp only at hSw
        go_simp
        try with_reducible rfl
      simp only [List.setIfInBounds_toArray, List.set_cons_zero, List.set_cons_succ]
      refine take_at 3 40 (v := ?_) ops_37_6_3 rfl ops_37_6_ns (by kernel_rfl) (by kernel_rfl) (fun _ _ _ h => h) (by rfl) ?y3 (by assumption) ?_
      case y3 =>
        intro w hSw
        try dsimp only at hSw
        go_simp
        try with_reducible rfl
      simp only [List.setIfInBounds_toArray, List.set_cons_zero, List.set_cons_succ]
      refine take_at 4 41 (v := ?_) ops_37_6_4 rfl ops_37_6_ns (by kernel_rfl) (by kernel_rfl) (fun _ _ _ h => h) (by rfl) ?y4 (by assumption) ?_
      case y4 =>
        intro w hSw
        try dsimp only at hSw
        go_simp
        try with_reducible rfl
      simp only [List.setIfInBounds_toArray, List.set_cons_zero, List.set_cons_succ]
      refine take_at 5 42 (v := ?_) ops_37_6_5 rfl ops_37_6_ns (by kernel_rfl) (by kernel_rfl) (fun _ _ _ h => h) (by rfl) ?y5 (by assumption) ?_
      case y5 =>
        intro w hSw
        try dsimp only at hSw
        go_simp
        try with_reducible rfl
      simp only [List.setIfInBounds_toArray, List.set_cons_zero, List.set_cons_succ]
      refine take_at 6 43 (v := ?_) ops_37_6_6 rfl ops_37_6_ns (by kernel_rfl) (by kernel_rfl) (fun _ _ _ h => h) (by rfl) ?y6 (by assumption) ?_
      case y6 =>
        intro w hSw
        try dsimp only at hSw
        go_simp
        try with_reducible rfl
      simp only [List.setIfInBounds_toArray, List.set_cons_zero, List.set_cons_succ]
      refine take_at 7 44 (v := ?_) ops_37_6_7 rfl ops_37_6_ns (by kernel_rfl) (by kernel_rfl) (fun _ _ _ h => h) (by rfl) ?y7 (by assumption) ?_
      case y7 =>
        intro w hSw
        try dsimp only at hSw
        go_simp
        try with_reducible rfl
      simp only [List.setIfInBounds_toArray, List.set_cons_zero, List.set_cons_succ]
      refine take_at 8 45 (v := ?_) ops_37_6_8 rfl ops_37_6_ns (by kernel_rfl) (by kernel_rfl) (fun _ _ _ h => h) (by rfl) ?y8 (by assumption) ?_
      case y8 =>
        intro w hSw
        try dsimp only at hSw
        go_simp
        try with_reducible rfl
      simp only [List.setIfInBounds_toArray, List.set_cons_zero, List.set_cons_succ]
      refine take_at 11 48 (v := ?_) ops_37_6_11 rfl ops_37_6_ns (by kernel_rfl) (by kernel_rfl) (fun _ _ _ h => h) (by rfl) ?y11 (by assumption) ?_
      case y11 =>
        intro w hSw
        try dsimp only at hSw
        go_simp
        try with_reducible rfl
      simp only [List.setIfInBounds_toArray, List.set_cons_zero, List.set_cons_succ]
      refine take_at 12 49 (v := ?_) ops_37_6_12 rfl ops_37_6_ns (by kernel_rfl) (by kernel_rfl) (fun _ _ _ h => h) (by rfl) ?y12 (by assumption) ?_
      case y12 =>
        intro w hSw
        try dsimp only at hSw
        go_simp
        try with_reducible rfl
      simp only [List.setIfInBounds_toArray, List.set_cons_zero, List.set_cons_succ]
      refine take_at 13 50 (v := ?_) ops_37_6_13 rfl ops_37_6_ns (by kernel_rfl) (by kernel_rfl) (fun _ _ _ h => h) (by rfl) ?y13 (by assumption) ?_
      case y13 =>
        intro w hSw
        try dsimp only at hSw
        go_simp
        try with_reducible rfl
      simp only [List.setIfInBounds_toArray, List.set_cons_zero, List.set_cons_succ]
      refine take_at 15 52 (v := ?_) ops_37_6_15 rfl ops_37_6_ns (by kernel_rfl) (by kernel_rfl) (fun _ _ _ h => h) (by rfl) ?y15 (by assumption) ?_
      case y15 =>
        intro w hSw
        try dsimp only at hSw
        go_simp
        try with_reducible rfl
      simp only [List.setIfInBounds_toArray, List.set_cons_zero, List.set_cons_succ]
      refine take_at 16 53 (v := ?_) ops_37_6_16 rfl ops_37_6_ns (by kernel_rfl) (by kernel_rfl) (fun _ _ _ h => h) (by rfl) ?y16 (by assumption) ?_
      case y16 =>
        intro w hSw
        try dsimp only at hSw
        go_simp
        try with_reducible rfl
      simp only [List.setIfInBounds_toArray, List.set_cons_zero, List.set_cons_succ]
      refine run_at2 9 18 ops_37_6_9 ops_37_6_18 (by kernel_rfl) (by rfl) (by rfl) (fun K hK => ?_) (fun K hK => ?_)
      · go_simp
        refine (undash_calls k2 _).mono ?_
        rintro e w' ⟨rfl, rfl⟩
        go_wp2_with fail
        refine hK.out _ _ ?_ (fun hHeld => ?_)
        · (first | exact HS6.out _ ((Below.refl V.heap.size V).drew))
        clear hK K
        try simp only [Act.put, List.setIfInBounds_toArray, List.set_cons_zero, List.set_cons_succ]
        refine run_at2 10 18 ops_37_6_10 ops_37_6_18 (by kernel_rfl) (by rfl) (by rfl) (fun K hK => ?_) (fun K hK => ?_)
        · go_simp
          refine (ruleWords_calls _).mono ?_
          rintro e w' ⟨rfl, rfl⟩
          go_wp2_with fail
          refine hK.out _ _ ?_ (fun hHeld => ?_)
          · (first | exact HS6.out _ ((below_alloc V _).drew) | exact HS6.out _ (below_step (Below.refl V.heap.size V).drew (below_alloc V.drew _)))
          clear hK K
          try simp only [Act.put, List.setIfInBounds_toArray, List.set_cons_zero, List.set_cons_succ]
          refine run_at2 14 18 ops_37_6_14 ops_37_6_18 (by kernel_rfl) (by rfl) (by rfl) (fun K hK => ?_) (fun K hK => ?_)
          · go_simp
            refine (kindQ_at _ V.heap.size k3 (by first | exact heap_alloc_new V _ | (have := heap_alloc_new V _; rw [World.size_alloc] at this; exact this))).mono ?_
            rintro e w' ⟨rfl, rfl⟩
            go_wp2_with fail
            refine hK.out _ _ ?_ (fun hHeld => ?_)
            · (first | exact HS6.out _ ((below_alloc V _).drew))
            clear hK K
            try simp only [Act.put, List.setIfInBounds_toArray, List.set_cons_zero, List.set_cons_succ]
            refine take_at 17 54 (v := ?_) ops_37_6_17 rfl ops_37_6_ns (by kernel_rfl) (by kernel_rfl) (fun _ _ _ h => h) (by rfl) ?y17a (by assumption) ?_
            case y17a =>
              intro w hSw
              try dsimp only at hSw
              go_simp
              try with_reducible rfl
            simp only [List.setIfInBounds_toArray, List.set_cons_zero, List.set_cons_succ]
            refine run_at 18 ops_37_6_18 (by kernel_rfl) (by rfl) (fun K hK => ?_)
            go_simp
            refine hK.out _ _ ?_ (fun hHeld => ?_)
            · (first | exact HS6.out _ ((below_step (below_alloc V _) (below_alloc _ _)).drew) | exact HS6.out _ (below_step (below_alloc V _).drew (below_alloc _ _)))
            clear hK K
            try simp only [Act.put, List.setIfInBounds_toArray, List.set_cons_zero, List.set_cons_succ]
            refine run_at 19 ops_37_6_19 (by kernel_rfl) (by rfl) (fun K hK => ?_)
            go_simp
            refine hK.out _ _ ?_ (fun hHeld => ?_)
            · exact HS6.out _ (below_step (below_alloc V _) (below_alloc _ _)).drew
            clear hK K
            try simp only [Act.put, List.setIfInBounds_toArray, List.set_cons_zero, List.set_cons_succ]
            refine wpAnyH_done (by kernel_rfl) ?_ _
            have hz7 : ((V.alloc (.cells (Value.string ⟨#[]⟩ :: kindsL.map Value.string).toArray 9)).alloc (.cells #[.string k0, .string k1, .string (undashS k2), .int .i64 (kindQ k3), .int .i64 n4, .int .i64 n5, .int .i64 d5] 40)).drew.heap[V.heap.size + 1]? = some (.cells #[.string k0, .string k1, .string (undashS k2), .int .i64 (kindQ k3), .int .i64 n4, .int .i64 n5, .int .i64 d5] 40 (0, 0)) := by have := heap_alloc_new (V.alloc (.cells (Value.string ⟨#[]⟩ :: kindsL.map Value.string).toArray 9)) (.cells #[.string k0, .string k1, .string (undashS k2), .int .i64 (kindQ k3), .int .i64 n4, .int .i64 n5, .int .i64 d5] 40); rw [World.size_alloc] at this; exact this
            have hb7 : Below V.heap.size V ((V.alloc (.cells (Value.string ⟨#[]⟩ :: kindsL.map Value.string).toArray 9)).alloc (.cells #[.string k0, .string k1, .string (undashS k2), .int .i64 (kindQ k3), .int .i64 n4, .int .i64 n5, .int .i64 d5] 40)).drew := (below_step (below_alloc V _) (below_alloc _ _)).drew
            generalize ((V.alloc (.cells (Value.string ⟨#[]⟩ :: kindsL.map Value.string).toArray 9)).alloc (.cells #[.string k0, .string k1, .string (undashS k2), .int .i64 (kindQ k3), .int .i64 n4, .int .i64 n5, .int .i64 d5] 40)).drew = W7 at hz7 hb7 ⊢
            obtain ⟨R, hR⟩ : ∃ R, R = V.heap.size + 1 := ⟨_, rfl⟩
            obtain ⟨KB, hKB⟩ : ∃ KB, KB = V.heap.size := ⟨_, rfl⟩
            rw [← hR] at hz7 ⊢
            rw [← hKB]
            exact tail KB R W7 ⟨hz7, hb7, by omega⟩
          · go_simp
            refine hK.out _ _ ?_ (fun hHeld => ?_)
            · (first | exact HS6.out _ ((below_step (below_alloc V _) (below_alloc _ _)).drew) | exact HS6.out _ (below_step (below_alloc V _).drew (below_alloc _ _)))
            clear hK K
            try simp only [Act.put, List.setIfInBounds_toArray, List.set_cons_zero, List.set_cons_succ]
            refine run_at 14 ops_37_6_14 (by kernel_rfl) (by rfl) (fun K hK => ?_)
            go_simp
            refine (kindQ_at _ V.heap.size k3 (by first | exact heap_al (heap_alloc_new V (.cells ((⟨#[]⟩ :: kindsL).map Value.string).toArray 9)) (.cells #[.string ⟨#[]⟩, .string ⟨#[]⟩, .string ⟨#[]⟩, .int .i64 0, .int .i64 0, .int .i64 0, .int .i64 0] 40) | (have := heap_al (heap_alloc_new V (.cells ((⟨#[]⟩ :: kindsL).map Value.string).toArray 9)) (.cells #[.string ⟨#[]⟩, .string ⟨#[]⟩, .string ⟨#[]⟩, .int .i64 0, .int .i64 0, .int .i64 0, .int .i64 0] 40); rw [World.size_alloc] at this; exact this))).mono ?_
            rintro e w' ⟨rfl, rfl⟩
            go_wp2_with fail
            refine hK.out _ _ ?_ (fun hHeld => ?_)
            · (first | exact HS6.out _ ((below_step (below_alloc V _) (below_alloc _ _)).drew))
            clear hK K
            try simp only [Act.put, List.setIfInBounds_toArray, List.set_cons_zero, List.set_cons_succ]
            refine take_at 17 54 (v := ?_) ops_37_6_17 rfl ops_37_6_ns (by kernel_rfl) (by kernel_rfl) (fun _ _ _ h => h) (by rfl) ?y17b (by assumption) ?_
            case y17b =>
              intro w hSw
              try dsimp only at hSw
              go_simp
              try with_reducible rfl
            simp only [List.setIfInBounds_toArray, List.set_cons_zero, List.set_cons_succ]
            refine run_at 19 ops_37_6_19 (by kernel_rfl) (by rfl) (fun K hK => ?_)
            go_simp
            refine hK.out _ _ ?_ (fun hHeld => ?_)
            · exact HS6.out _ (below_step (below_alloc V _) (below_alloc _ _)).drew
            clear hK K
            try simp only [Act.put, List.setIfInBounds_toArray, List.set_cons_zero, List.set_cons_succ]
            refine wpAnyH_done (by kernel_rfl) ?_ _
            have hz7 : ((V.alloc (.cells (Value.string ⟨#[]⟩ :: kindsL.map Value.string).toArray 9)).alloc (.cells #[.string k0, .string k1, .string (undashS k2), .int .i64 (kindQ k3), .int .i64 n4, .int .i64 n5, .int .i64 d5] 40)).drew.heap[V.heap.size + 1]? = some (.cells #[.string k0, .string k1, .string (undashS k2), .int .i64 (kindQ k3), .int .i64 n4, .int .i64 n5, .int .i64 d5] 40 (0, 0)) := by have := heap_alloc_new (V.alloc (.cells (Value.string ⟨#[]⟩ :: kindsL.map Value.string).toArray 9)) (.cells #[.string k0, .string k1, .string (undashS k2), .int .i64 (kindQ k3), .int .i64 n4, .int .i64 n5, .int .i64 d5] 40); rw [World.size_alloc] at this; exact this
            have hb7 : Below V.heap.size V ((V.alloc (.cells (Value.string ⟨#[]⟩ :: kindsL.map Value.string).toArray 9)).alloc (.cells #[.string k0, .string k1, .string (undashS k2), .int .i64 (kindQ k3), .int .i64 n4, .int .i64 n5, .int .i64 d5] 40)).drew := (below_step (below_alloc V _) (below_alloc _ _)).drew
            generalize ((V.alloc (.cells (Value.string ⟨#[]⟩ :: kindsL.map Value.string).toArray 9)).alloc (.cells #[.string k0, .string k1, .string (undashS k2), .int .i64 (kindQ k3), .int .i64 n4, .int .i64 n5, .int .i64 d5] 40)).drew = W7 at hz7 hb7 ⊢
            obtain ⟨R, hR⟩ : ∃ R, R = V.heap.size + 1 := ⟨_, rfl⟩
            obtain ⟨KB, hKB⟩ : ∃ KB, KB = V.heap.size := ⟨_, rfl⟩
            rw [← hR] at hz7 ⊢
            rw [← hKB]
            exact tail KB R W7 ⟨hz7, hb7, by omega⟩
        · go_simp
          refine hK.out _ _ ?_ (fun hHeld => ?_)
          · (first | exact HS6.out _ ((below_alloc V _).drew) | exact HS6.out _ (below_step (Below.refl V.heap.size V).drew (below_alloc V.drew _)))
          clear hK K
          try simp only [Act.put, List.setIfInBounds_toArray, List.set_cons_zero, List.set_cons_succ]
          refine run_at 10 ops_37_6_10 (by kernel_rfl) (by rfl) (fun K hK => ?_)
          go_simp
          refine (ruleWords_calls _).mono ?_
          rintro e w' ⟨rfl, rfl⟩
          go_wp2_with fail
          refine hK.out _ _ ?_ (fun hHeld => ?_)
          · (first | exact HS6.out _ ((below_step (below_alloc V _) (below_alloc _ _)).drew) | exact HS6.out _ (below_step (below_alloc V _).drew (below_alloc _ _)))
          clear hK K
          try simp only [Act.put, List.setIfInBounds_toArray, List.set_cons_zero, List.set_cons_succ]
          refine run_at 14 ops_37_6_14 (by kernel_rfl) (by rfl) (fun K hK => ?_)
          go_simp
          refine (kindQ_at _ (V.heap.size + 1) k3 (by first | exact heap_alloc_new (V.alloc (.cells #[.string ⟨#[]⟩, .string ⟨#[]⟩, .string ⟨#[]⟩, .int .i64 0, .int .i64 0, .int .i64 0, .int .i64 0] 40)) (.cells ((⟨#[]⟩ :: kindsL).map Value.string).toArray 9) | (have := heap_alloc_new (V.alloc (.cells #[.string ⟨#[]⟩, .string ⟨#[]⟩, .string ⟨#[]⟩, .int .i64 0, .int .i64 0, .int .i64 0, .int .i64 0] 40)) (.cells ((⟨#[]⟩ :: kindsL).map Value.string).toArray 9); rw [World.size_alloc] at this; exact this))).mono ?_
          rintro e w' ⟨rfl, rfl⟩
          go_wp2_with fail
          refine hK.out _ _ ?_ (fun hHeld => ?_)
          · (first | exact HS6.out _ ((below_step (below_alloc V _) (below_alloc _ _)).drew))
          clear hK K
          try simp only [Act.put, List.setIfInBounds_toArray, List.set_cons_zero, List.set_cons_succ]
          refine take_at 17 54 (v := ?_) ops_37_6_17 rfl ops_37_6_ns (by kernel_rfl) (by kernel_rfl) (fun _ _ _ h => h) (by rfl) ?y17c (by assumption) ?_
          case y17c =>
            intro w hSw
            try dsimp only at hSw
            go_simp
            try with_reducible rfl
          simp only [List.setIfInBounds_toArray, List.set_cons_zero, List.set_cons_succ]
          refine run_at 19 ops_37_6_19 (by kernel_rfl) (by rfl) (fun K hK => ?_)
          go_simp
          refine hK.out _ _ ?_ (fun hHeld => ?_)
          · exact HS6.out _ (below_step (below_alloc V _) (below_alloc _ _)).drew
          clear hK K
          try simp only [Act.put, List.setIfInBounds_toArray, List.set_cons_zero, List.set_cons_succ]
          refine wpAnyH_done (by kernel_rfl) ?_ _
          have hz7 : ((V.alloc (.cells #[.string k0, .string k1, .string (undashS k2), .int .i64 (kindQ k3), .int .i64 n4, .int .i64 n5, .int .i64 d5] 40)).alloc (.cells (Value.string ⟨#[]⟩ :: kindsL.map Value.string).toArray 9)).drew.heap[V.heap.size]? = some (.cells #[.string k0, .string k1, .string (undashS k2), .int .i64 (kindQ k3), .int .i64 n4, .int .i64 n5, .int .i64 d5] 40 (0, 0)) := heap_al (heap_alloc_new V _) _
          have hb7 : Below V.heap.size V ((V.alloc (.cells #[.string k0, .string k1, .string (undashS k2), .int .i64 (kindQ k3), .int .i64 n4, .int .i64 n5, .int .i64 d5] 40)).alloc (.cells (Value.string ⟨#[]⟩ :: kindsL.map Value.string).toArray 9)).drew := (below_step (below_alloc V _) (below_alloc _ _)).drew
          have hle := Nat.le_refl V.heap.size
          generalize ((V.alloc (.cells #[.string k0, .string k1, .string (undashS k2), .int .i64 (kindQ k3), .int .i64 n4, .int .i64 n5, .int .i64 d5] 40)).alloc (.cells (Value.string ⟨#[]⟩ :: kindsL.map Value.string).toArray 9)).drew = W7 at hz7 hb7 ⊢
          obtain ⟨KB, hKB⟩ : ∃ KB, KB = V.heap.size + 1 := ⟨_, rfl⟩
          obtain ⟨R, hR⟩ : ∃ R, R = V.heap.size := ⟨_, rfl⟩
          rw [← hKB]
          rw [← hR] at hz7 ⊢
          exact tail KB R W7 ⟨hz7, hb7, by omega⟩
      · go_simp
        refine hK.out _ _ ?_ (fun hHeld => ?_)
        · (first | exact HS6.out _ ((below_alloc V _).drew) | exact HS6.out _ (below_step (Below.refl V.heap.size V).drew (below_alloc V.drew _)))
        clear hK K
        try simp only [Act.put, List.setIfInBounds_toArray, List.set_cons_zero, List.set_cons_succ]
        refine run_at 9 ops_37_6_9 (by kernel_rfl) (by rfl) (fun K hK => ?_)
        go_simp
        refine (undash_calls k2 _).mono ?_
        rintro e w' ⟨rfl, rfl⟩
        go_wp2_with fail
        refine hK.out _ _ ?_ (fun hHeld => ?_)
        · (first | exact HS6.out _ ((below_alloc V _).drew) | exact HS6.out _ (below_step (Below.refl V.heap.size V).drew (below_alloc V.drew _)))
        clear hK K
        try simp only [Act.put, List.setIfInBounds_toArray, List.set_cons_zero, List.set_cons_succ]
        refine run_at 10 ops_37_6_10 (by kernel_rfl) (by rfl) (fun K hK => ?_)
        go_simp
        refine (ruleWords_calls _).mono ?_
        rintro e w' ⟨rfl, rfl⟩
        go_wp2_with fail
        refine hK.out _ _ ?_ (fun hHeld => ?_)
        · (first | exact HS6.out _ ((below_step (below_alloc V _) (below_alloc _ _)).drew) | exact HS6.out _ (below_step (below_alloc V _).drew (below_alloc _ _)))
        clear hK K
        try simp only [Act.put, List.setIfInBounds_toArray, List.set_cons_zero, List.set_cons_succ]
        refine run_at 14 ops_37_6_14 (by kernel_rfl) (by rfl) (fun K hK => ?_)
        go_simp
        refine (kindQ_at _ (V.heap.size + 1) k3 (by first | exact heap_alloc_new (V.alloc (.cells #[.string ⟨#[]⟩, .string ⟨#[]⟩, .string ⟨#[]⟩, .int .i64 0, .int .i64 0, .int .i64 0, .int .i64 0] 40)) (.cells ((⟨#[]⟩ :: kindsL).map Value.string).toArray 9) | (have := heap_alloc_new (V.alloc (.cells #[.string ⟨#[]⟩, .string ⟨#[]⟩, .string ⟨#[]⟩, .int .i64 0, .int .i64 0, .int .i64 0, .int .i64 0] 40)) (.cells ((⟨#[]⟩ :: kindsL).map Value.string).toArray 9); rw [World.size_alloc] at this; exact this))).mono ?_
        rintro e w' ⟨rfl, rfl⟩
        go_wp2_with fail
        refine hK.out _ _ ?_ (fun hHeld => ?_)
        · (first | exact HS6.out _ ((below_step (below_alloc V _) (below_alloc _ _)).drew))
        clear hK K
        try simp only [Act.put, List.setIfInBounds_toArray, List.set_cons_zero, List.set_cons_succ]
        refine take_at 17 54 (v := ?_) ops_37_6_17 rfl ops_37_6_ns (by kernel_rfl) (by kernel_rfl) (fun _ _ _ h => h) (by rfl) ?y17d (by assumption) ?_
        case y17d =>
          intro w hSw
          try dsimp only at hSw
          go_simp
          try with_reducible rfl
        simp only [List.setIfInBounds_toArray, List.set_cons_zero, List.set_cons_succ]
        refine run_at 19 ops_37_6_19 (by kernel_rfl) (by rfl) (fun K hK => ?_)
        go_simp
        refine hK.out _ _ ?_ (fun hHeld => ?_)
        · exact HS6.out _ (below_step (below_alloc V _) (below_alloc _ _)).drew
        clear hK K
        try simp only [Act.put, List.setIfInBounds_toArray, List.set_cons_zero, List.set_cons_succ]
        refine wpAnyH_done (by kernel_rfl) ?_ _
        have hz7 : ((V.alloc (.cells #[.string k0, .string k1, .string (undashS k2), .int .i64 (kindQ k3), .int .i64 n4, .int .i64 n5, .int .i64 d5] 40)).alloc (.cells (Value.string ⟨#[]⟩ :: kindsL.map Value.string).toArray 9)).drew.heap[V.heap.size]? = some (.cells #[.string k0, .string k1, .string (undashS k2), .int .i64 (kindQ k3), .int .i64 n4, .int .i64 n5, .int .i64 d5] 40 (0, 0)) := heap_al (heap_alloc_new V _) _
        have hb7 : Below V.heap.size V ((V.alloc (.cells #[.string k0, .string k1, .string (undashS k2), .int .i64 (kindQ k3), .int .i64 n4, .int .i64 n5, .int .i64 d5] 40)).alloc (.cells (Value.string ⟨#[]⟩ :: kindsL.map Value.string).toArray 9)).drew := (below_step (below_alloc V _) (below_alloc _ _)).drew
        have hle := Nat.le_refl V.heap.size
        generalize ((V.alloc (.cells #[.string k0, .string k1, .string (undashS k2), .int .i64 (kindQ k3), .int .i64 n4, .int .i64 n5, .int .i64 d5] 40)).alloc (.cells (Value.string ⟨#[]⟩ :: kindsL.map Value.string).toArray 9)).drew = W7 at hz7 hb7 ⊢
        obtain ⟨KB, hKB⟩ : ∃ KB, KB = V.heap.size + 1 := ⟨_, rfl⟩
        obtain ⟨R, hR⟩ : ∃ R, R = V.heap.size := ⟨_, rfl⟩
        rw [← hKB]
        rw [← hR] at hz7 ⊢
        exact tail KB R W7 ⟨hz7, hb7, by omega⟩
    · intro K R W' hW'
      obtain ⟨hR, hVW, hRl⟩ := hW'
      obtain ⟨v, ho1, ho2⟩ := HO.out
      have hb1W := below_step Hb1.out (below_step H1V.out hVW)
      have hwV : w.heap.size ≤ V.heap.size := Nat.le_trans Hb1.out.size H1V.out.size
      have ho1' : W'.heap[O]? = some (.cells #[v] 26 (0, 0)) := (hb1W.block O hOw).trans ho1
      have ho2' := own_below ho2 hb1W
      have hgb : ∀ q, v.ownBlock = some q → base ≤ q ∧ q < w.heap.size := fun q hq => by
        obtain ⟨h1, cur, h2⟩ := own_block ho2 q hq
        exact ⟨h1, lt_of_heap h2⟩
      obtain ⟨va, vc, rfl⟩ := owns_shape ho2
      have c0 : W'.cell? ⟨O, 0, none⟩ = some (.slice va L.length vc) := cell_at ho1' 0 rfl
      have r0 := cell_at hR 0 rfl
      have r1 := cell_at hR 1 rfl
      have r2 := cell_at hR 2 rfl
      have r3 := cell_at hR 3 rfl
      have r4 := cell_at hR 4 rfl
      have r5 := cell_at hR 5 rfl
      have r6 := cell_at hR 6 rfl
      have Hgb := Lib.hid hgb
      have HR := Lib.hid hR
      have HWw := Lib.hid hb1W
      have HOo := Lib.hid ho1'
      have HRl := Lib.hid (Nat.le_trans hwV hRl)
      have hszW := hb1W.size
      have HhR := Lib.hid (lt_of_heap hR)
      clear hR hVW hRl hb1W hwV ho1 ho2 ho1' hgb HS6 H1V Hb1 HO HG
      go_wp2_with (at_builtin; obtain ⟨hi, hz0, hz1, hz2⟩ := HI.out; refine wpList_append_own _ rfl _ _ 26 rfl base 40 i0 (.agg #[.string ⟨#[]⟩, .string ⟨#[]⟩, .string ⟨#[]⟩, .int .i64 0, .int .i64 0, .int .i64 0, .int .i64 0]) 7 80 Tryz.underlying26 hi hz0 hz1 hz2 rfl (by decide) _ _ _ rfl (ho2'.alloc _) ⟨W'.heap.size, 0, none⟩ 1 1 [.string k0, .string k1, .string (undashS k2), .int .i64 (kindQ k3), .int .i64 n4, .int .i64 n5, .int .i64 d5] rfl rfl ?c1 ?c2 ?c3 ?c4 ?c5 ?_)
      case c1 => exact cells_new _ _ _
      case c2 => simp [Value.oneCell']
      case c3 => unfold maxLen; omega
      case c4 => omega
      case c5 => simp; omega
      intro v' w5 hown5 hgrow _
      have hO5 : w5.heap[O]? = some (.cells #[.slice va L.length vc] 26 (0, 0)) := (hgrow.block O (by simp; omega) (fun e => by have := (Hgb.out O e.symm).1; omega)).trans (heap_al HOo.out _)
      have hR5 : w5.heap[R]? = some (.cells #[.string k0, .string k1, .string (undashS k2), .int .i64 (kindQ k3), .int .i64 n4, .int .i64 n5, .int .i64 d5] 40 (0, 0)) := (hgrow.block R (by have := HhR.out; simp; omega) (fun e => by have := (Hgb.out R e.symm).2; have := HRl.out; omega)).trans (heap_al HR.out _)
      have co := cell_at hO5 0 rfl
      have fo := free_of hO5 0
      have hRO : R ≠ O := by have := HRl.out; omega
      have r3' : w5.cell? ⟨R, 3, none⟩ = some (.int .i64 (kindQ k3)) := cell_at hR5 3 rfl
      obtain ⟨g8, cap8, rfl⟩ := ownsRow_succ hown5
      have hb5 : Below w.heap.size w w5 ∨ True := .inr trivial
      have hB5 : Below O w (w5.setCell ⟨O, 0, none⟩ (.slice (some ⟨g8, 0, none⟩) (L.length + 1) cap8)) := by
        have h1 : Below O w W' := HWw.out.mono (by omega)
        have h2 := (h1.alloc (by omega) (.cells #[.string k0, .string k1, .string (undashS k2), .int .i64 (kindQ k3), .int .i64 n4, .int .i64 n5, .int .i64 d5] 40)).grown hgrow (by simp; omega) fun q hq => by have := (Hgb.out q hq).1; omega
        exact h2.setCell (p := ⟨O, 0, none⟩) (Nat.le_refl _) _
      have hOut : OutR (w5.setCell ⟨O, 0, none⟩ (.slice (some ⟨g8, 0, none⟩) (L.length + 1) cap8)) base O (L ++ [⟨k0, k1, undashS k2, kindQ k3, n4, n5, d5⟩]) := by
        refine ⟨.slice (some ⟨g8, 0, none⟩) (L.length + 1) cap8, by simp [World.setCell, Array.getElem?_modify, hO5], ?_⟩
        have h1 := World.ownsRow.kept hown5 (gb_setCell w5 O 0 (.slice (some ⟨g8, 0, none⟩) (L.length + 1) cap8)) (.inr fun e => by
          have := (own_block hown5 O e).1; omega)
        simpa [rlRow] using h1
      have hle5 : w.heap.size ≤ w5.heap.size := by have := hgrow.size; simp at this; omega
      have HOut := Lib.hid hOut
      have HB5 := Lib.hid hB5
      have Hle5 := Lib.hid hle5
      have hkq := kindQ_eq HN3.out
      have hki := kindI_bound k3
      have hpos : decide (0 < kindQ k3) = decide (0 < kindI k3) := by
        rw [hkq]
        by_cases hz : kindI k3 = 0
        · rw [if_pos hz, hz]; rfl
        · rw [if_neg hz]
      have HL' : Hid (0 < kindI k3 → kindQ k3 = kindI k3) := Lib.hid fun h => by rw [hkq, if_neg (by omega)]
      rw [← hpos] at HB
      have Hpos : Hid (0 < kindQ k3 → 0 < kindI k3) := Lib.hid fun h => by
        have := decide_eq_true h
        rw [hpos] at this
        exact of_decide_eq_true this
      clear hO5 hR5 hown5 hgrow hOut hB5 hle5 ho2' hkq hki hpos r0 r1 r2 r3 r4 r5 r6 c0 hb5 hszW
      generalize undashS k2 = u2 at HL HOut ⊢
      generalize kindQ k3 = q3 at HB HL' Hpos HOut r3' ⊢
      generalize kindI k3 = p3 at HL HL' Hpos
      cases b4
      · have HB' := Lib.hid (show ruleB s = false by rw [HB.out]; simp)
        clear HB
        go_wp2_with fail
        refine bodyPost_ret (results_tmp rfl _ _ _) rfl ?_
        first
          | exact ⟨L ++ [⟨k0, k1, u2, q3, n4, n5, d5⟩], by rw [HB'.out]; rfl, HOut.out, by simp, fun h => by rw [HB'.out] at h; (cases h), HB5.out, by simpa using Hle5.out⟩
          | exact ⟨by rw [HB'.out]; rfl, L ++ [⟨k0, k1, u2, q3, n4, n5, d5⟩], HOut.out, by simp, fun h => by rw [HB'.out] at h; (cases h), HB5.out, by simpa using Hle5.out⟩
      · cases b5
        · have HB' := Lib.hid (show ruleB s = false by rw [HB.out]; simp)
          clear HB
          go_wp2_with fail
          refine bodyPost_ret (results_tmp rfl _ _ _) rfl ?_
          first
            | exact ⟨L ++ [⟨k0, k1, u2, q3, n4, n5, d5⟩], by rw [HB'.out]; rfl, HOut.out, by simp, fun h => by rw [HB'.out] at h; (cases h), HB5.out, by simpa using Hle5.out⟩
            | exact ⟨by rw [HB'.out]; rfl, L ++ [⟨k0, k1, u2, q3, n4, n5, d5⟩], HOut.out, by simp, fun h => by rw [HB'.out] at h; (cases h), HB5.out, by simpa using Hle5.out⟩
        · by_cases hq : 0 < q3
          · have HB' := Lib.hid (show ruleB s = true by rw [HB.out]; simp [hq])
            have HE := Lib.hid (show (⟨k0, k1, u2, q3, n4, n5, d5⟩ : RD) = ruleL s by
              rw [HL.out, HL'.out (Hpos.out hq), HN4.out rfl, ← HN5.out rfl])
            have hdq : decide (0 < q3) = true := decide_eq_true hq
            clear HB hq
            go_wp2_with fail
            refine bodyPost_ret (results_tmp rfl _ _ _) rfl ?_
            first
              | exact ⟨L ++ [⟨k0, k1, u2, q3, n4, n5, d5⟩], by rw [HB'.out]; rfl, HOut.out, by simp, fun _ => by rw [HE.out], HB5.out, by simpa using Hle5.out⟩
              | exact ⟨by rw [HB'.out]; rfl, L ++ [⟨k0, k1, u2, q3, n4, n5, d5⟩], HOut.out, by simp, fun _ => by rw [HE.out], HB5.out, by simpa using Hle5.out⟩
          · have HB' := Lib.hid (show ruleB s = false by rw [HB.out]; simp [hq])
            have hdq : decide (0 < q3) = false := decide_eq_false hq
            clear HB hq
            go_wp2_with fail
            refine bodyPost_ret (results_tmp rfl _ _ _) rfl ?_
            first
              | exact ⟨L ++ [⟨k0, k1, u2, q3, n4, n5, d5⟩], by rw [HB'.out]; rfl, HOut.out, by simp, fun h => by rw [HB'.out] at h; (cases h), HB5.out, by simpa using Hle5.out⟩
              | exact ⟨by rw [HB'.out]; rfl, L ++ [⟨k0, k1, u2, q3, n4, n5, d5⟩], HOut.out, by simp, fun h => by rw [HB'.out] at h; (cases h), HB5.out, by simpa using Hle5.out⟩
  · have HB := Lib.hid (show ruleB s = false by unfold ruleB; rw [Bool.eq_false_iff.2 hg]; rfl)
    cases hg1 : goodW s with
    | false =>
      rw [hg1] at C1
      clear hg hg1
      go_enter Tryz.func37, Tryz.ntmps37
      go_wp2_with fail
      refine C1.out.mono ?_
      rintro e w1 ⟨rfl, -, hb1⟩
      clear C1
      go_wp2_with fail
      go_ret
      exact ⟨L, by rw [HB.out]; rfl, HO.out.below hb1, by omega, fun h => by rw [HB.out] at h; (cases h), hb1.mono (by omega), hb1.size⟩
    | true =>
      have h6 : ¬ (wsL s).length = 6 := by
        intro h
        unfold formB at hg
        rw [hg1, decide_eq_true h] at hg
        exact hg rfl
      rw [hg1] at C1
      have e1 : (((wsL s).length : Int) != 6) = true := by simp; omega
      generalize wsL s = P at C1 e1
      clear hg hg1 h6
      go_enter Tryz.func37, Tryz.ntmps37
      go_wp2_with fail
      refine C1.out.mono ?_
      rintro e w1 ⟨rfl, -, hb1⟩
      clear C1
      go_wp2_with fail
      go_ret
      exact ⟨L, by rw [HB.out]; rfl, HO.out.below hb1, by omega, fun h => by rw [HB.out] at h; (cases h), hb1.mono (by omega), hb1.size⟩
end Go.Proofs.YtmejjkicagkogaaGreatDoor
