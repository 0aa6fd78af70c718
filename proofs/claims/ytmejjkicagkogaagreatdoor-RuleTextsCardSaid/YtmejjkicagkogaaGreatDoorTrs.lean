/- ReadFraction of the reference. -/
import Derived.Test.YtmejjkicagkogaaGreatDoorTrq
namespace Go.Proofs.YtmejjkicagkogaaGreatDoor
open Go.RowKit

def slS (s : ByteArray) : List ByteArray := Lib.splitB ⟨#[47]⟩ 0 (Lib.countB s ⟨#[47]⟩) s
theorem slS_split (s : ByteArray) : (slS s).map (·.data.toList) = splitF s.data.toList := Lib.splitB_data ⟨#[47]⟩ 0 _ s
/-- A fraction that a word spells, if it spells one. -/
def SpellsF (s : ByteArray) (f : Int × Int) : Prop := (Int64 f.1 ∧ Int64 f.2) ∧ ∀ g, fracV s.data.toList = some g → f = g
def ops_40_5 : Array Go.Oper := #[
  { dst := some 18, op := Go.Op.move (Go.Operand.tmp 5), type := 22, pos := "scores.go:434", after := #[], guard := none },
  { dst := some 19, op := Go.Op.indexAddr 22 (Go.Operand.tmp 18) (Go.Operand.const (Go.Value.int Go.IntKind.i64 0)), type := 0, pos := "scores.go:434", after := #[{ on := 0, ground := Go.Ground.data }], guard := none },
  { dst := some 20, op := Go.Op.load 3 (Go.Operand.tmp 19), type := 3, pos := "scores.go:434", after := #[{ on := 1, ground := Go.Ground.data }], guard := none },
  { dst := some 21, op := Go.Op.move (Go.Operand.tmp 5), type := 22, pos := "scores.go:434", after := #[], guard := none },
  { dst := some 22, op := Go.Op.indexAddr 22 (Go.Operand.tmp 21) (Go.Operand.const (Go.Value.int Go.IntKind.i64 1)), type := 0, pos := "scores.go:434", after := #[{ on := 3, ground := Go.Ground.data }], guard := none },
  { dst := some 23, op := Go.Op.load 3 (Go.Operand.tmp 22), type := 3, pos := "scores.go:434", after := #[{ on := 4, ground := Go.Ground.data }], guard := none },
  { dst := some 24, op := Go.Op.build 38 #[(0, Go.Operand.tmp 20), (1, Go.Operand.tmp 23)], type := 38, pos := "scores.go:434", after := #[{ on := 2, ground := Go.Ground.data }, { on := 5, ground := Go.Ground.data }], guard := none },
  { dst := some 25, op := Go.Op.move (Go.Operand.tmp 6), type := 4, pos := "scores.go:434", after := #[{ on := 8, ground := Go.Ground.gcOnly Go.Departure.lateStores }], guard := none },
  { dst := none, op := Go.Op.store 38 (Go.Operand.tmp 2) (Go.Operand.tmp 24), type := 0, pos := "scores.go:434", after := #[{ on := 6, ground := Go.Ground.data }, { on := 0, ground := Go.Ground.phase }, { on := 1, ground := Go.Ground.phase }, { on := 2, ground := Go.Ground.phase }, { on := 3, ground := Go.Ground.phase }, { on := 4, ground := Go.Ground.phase }, { on := 5, ground := Go.Ground.phase }, { on := 6, ground := Go.Ground.phase }, { on := 7, ground := Go.Ground.textOnly Go.Departure.lateStores }], guard := none },
  { dst := some 3, op := Go.Op.assign (Go.Operand.tmp 25), type := 4, pos := "scores.go:434", after := #[{ on := 7, ground := Go.Ground.data }, { on := 8, ground := Go.Ground.chain }, { on := 0, ground := Go.Ground.phase }, { on := 1, ground := Go.Ground.phase }, { on := 2, ground := Go.Ground.phase }, { on := 3, ground := Go.Ground.phase }, { on := 4, ground := Go.Ground.phase }, { on := 5, ground := Go.Ground.phase }, { on := 6, ground := Go.Ground.phase }, { on := 7, ground := Go.Ground.phase }, { on := 8, ground := Go.Ground.phase }], guard := none }]
theorem ops_40_5_0 : ops_40_5[0]? = some ({ dst := some 18, op := Go.Op.move (Go.Operand.tmp 5), type := 22, pos := "scores.go:434", after := #[], guard := none } : Go.Oper) := rfl
theorem ops_40_5_1 : ops_40_5[1]? = some ({ dst := some 19, op := Go.Op.indexAddr 22 (Go.Operand.tmp 18) (Go.Operand.const (Go.Value.int Go.IntKind.i64 0)), type := 0, pos := "scores.go:434", after := #[{ on := 0, ground := Go.Ground.data }], guard := none } : Go.Oper) := rfl
theorem ops_40_5_2 : ops_40_5[2]? = some ({ dst := some 20, op := Go.Op.load 3 (Go.Operand.tmp 19), type := 3, pos := "scores.go:434", after := #[{ on := 1, ground := Go.Ground.data }], guard := none } : Go.Oper) := rfl
theorem ops_40_5_3 : ops_40_5[3]? = some ({ dst := some 21, op := Go.Op.move (Go.Operand.tmp 5), type := 22, pos := "scores.go:434", after := #[], guard := none } : Go.Oper) := rfl
theorem ops_40_5_4 : ops_40_5[4]? = some ({ dst := some 22, op := Go.Op.indexAddr 22 (Go.Operand.tmp 21) (Go.Operand.const (Go.Value.int Go.IntKind.i64 1)), type := 0, pos := "scores.go:434", after := #[{ on := 3, ground := Go.Ground.data }], guard := none } : Go.Oper) := rfl
theorem ops_40_5_5 : ops_40_5[5]? = some ({ dst := some 23, op := Go.Op.load 3 (Go.Operand.tmp 22), type := 3, pos := "scores.go:434", after := #[{ on := 4, ground := Go.Ground.data }], guard := none } : Go.Oper) := rfl
theorem ops_40_5_6 : ops_40_5[6]? = some ({ dst := some 24, op := Go.Op.build 38 #[(0, Go.Operand.tmp 20), (1, Go.Operand.tmp 23)], type := 38, pos := "scores.go:434", after := #[{ on := 2, ground := Go.Ground.data }, { on := 5, ground := Go.Ground.data }], guard := none } : Go.Oper) := rfl
theorem ops_40_5_7 : ops_40_5[7]? = some ({ dst := some 25, op := Go.Op.move (Go.Operand.tmp 6), type := 4, pos := "scores.go:434", after := #[{ on := 8, ground := Go.Ground.gcOnly Go.Departure.lateStores }], guard := none } : Go.Oper) := rfl
theorem ops_40_5_8 : ops_40_5[8]? = some ({ dst := none, op := Go.Op.store 38 (Go.Operand.tmp 2) (Go.Operand.tmp 24), type := 0, pos := "scores.go:434", after := #[{ on := 6, ground := Go.Ground.data }, { on := 0, ground := Go.Ground.phase }, { on := 1, ground := Go.Ground.phase }, { on := 2, ground := Go.Ground.phase }, { on := 3, ground := Go.Ground.phase }, { on := 4, ground := Go.Ground.phase }, { on := 5, ground := Go.Ground.phase }, { on := 6, ground := Go.Ground.phase }, { on := 7, ground := Go.Ground.textOnly Go.Departure.lateStores }], guard := none } : Go.Oper) := rfl
theorem ops_40_5_9 : ops_40_5[9]? = some ({ dst := some 3, op := Go.Op.assign (Go.Operand.tmp 25), type := 4, pos := "scores.go:434", after := #[{ on := 7, ground := Go.Ground.data }, { on := 8, ground := Go.Ground.chain }, { on := 0, ground := Go.Ground.phase }, { on := 1, ground := Go.Ground.phase }, { on := 2, ground := Go.Ground.phase }, { on := 3, ground := Go.Ground.phase }, { on := 4, ground := Go.Ground.phase }, { on := 5, ground := Go.Ground.phase }, { on := 6, ground := Go.Ground.phase }, { on := 7, ground := Go.Ground.phase }, { on := 8, ground := Go.Ground.phase }], guard := none } : Go.Oper) := rfl
theorem ops_40_5_ns : Go.Region.noSelect ops_40_5 = true := by kernel_rfl
set_option maxRecDepth 100000 in
set_option maxHeartbeats 4000000 in
theorem readFraction_calls (s : ByteArray) (w : World) (hs : s.size ≤ 950) (hG : GlobT w) :
    Calls Tryz.prog 40 #[.string s] w fun e w' => ∃ f : Int × Int, e = .returned (.tuple #[frV f, .bool (fracV s.data.toList).isSome]) ∧ SpellsF s f ∧ Below w.heap.size w w' := by
  have hb0 := below_alloc w (.cells #[.int .i64 0, .int .i64 0] 38)
  have hx0 := heap_alloc_new w (.cells #[.int .i64 0, .int .i64 0] 38)
  have C1 := Lib.hid (fun w' (hb : Below w.heap.size w w') => split_calls s 47 w' (by omega) (hG.below hb))
  have Hsp := Lib.hid (slS_split s)
  have hsz := splitB_size ⟨#[47]⟩ (Lib.countB s ⟨#[47]⟩) s
  have hle := splitAll_le s 47
  have Hsz := Lib.hid (show ∀ x ∈ slS s, x.size ≤ s.size from hsz)
  have hle' : (slS s).length ≤ s.size + 1 := hle
  have HG := Lib.hid (fun w' (hb : Below w.heap.size w w') => hG.below hb)
  have Hx := Lib.hid hx0
  change Hid (∀ w', Below w.heap.size w w' → Calls Tryz.prog 67 #[.string s, .string ⟨#[47]⟩] w' fun e w'' => e = .returned (.slice (some ⟨w'.heap.size, 0, none⟩) (slS s).length (slS s).length) ∧ Strs w'' w'.heap.size (.slice (some ⟨w'.heap.size, 0, none⟩) (slS s).length (slS s).length) (slS s) ∧ Below w'.heap.size w' w'') at C1
  generalize slS s = P at C1 Hsp Hsz hle'
  clear hx0 hG hsz hle
  rcases split_two s.data.toList with ⟨a, b, h1, h2⟩ | ⟨h1, h2⟩
  · have hP := Hsp.out
    rw [h1] at hP
    obtain ⟨A, B, rfl, hA, hB⟩ : ∃ A B : ByteArray, P = [A, B] ∧ A.data.toList = a ∧ B.data.toList = b := by
      match P, hP with
      | [A, B], hP => simp at hP; exact ⟨A, B, rfl, hP.1, hP.2⟩
    have HV := Lib.hid (show [A, B].all okN = (fracV s.data.toList).isSome by
      rw [fracV_both, h2]
      simp only [List.all_cons, List.all_nil, Bool.and_true, okN]
      rw [hA, hB])
    have HS := Lib.hid (fun (n0 n1 : Int) (g0 : Spells A n0) (g1 : Spells B n1) => (show SpellsF s (n0, n1) from ⟨⟨g0.1, g1.1⟩, fun f hf => by
      have h3 := fracV_some hf
      rw [h2] at h3
      rw [← hA, ← hB] at h3
      rw [g0.2 _ h3.1, g1.2 _ h3.2]⟩))
    have HsA := Lib.hid (show ∀ k ∈ [A, B], k.size ≤ 100000 from fun k hk => Nat.le_trans (Hsz.out k hk) (by omega))
    clear h1 h2 hP hA hB Hsp Hsz hle' hs
    simp only [List.length_cons, List.length_nil, Nat.zero_add, Nat.reduceAdd] at C1
    go_enter Tryz.func40, Tryz.ntmps40
    go_wp2_with fail
    refine (C1.out _ hb0).mono ?_
    rintro e w1 ⟨rfl, hK, hb1⟩
    have hb01 := below_step hb0 hb1
    have Hx1 := Lib.hid (cells_later Hx.out hb1)
    simp only [World.size_alloc] at hK
    have C2 := Lib.hid (numbersIn_calls _ _ [A, B] w1 hK HsA.out (Nat.le_of_ble_eq_true rfl) (HG.out w1 hb01))
    clear hb0 hb1 hK C1
    go_wp2_with fail
    refine C2.out.mono ?_
    rintro e w2 ⟨v', ns, rfl, hown, hln, hspell, hb2⟩
    obtain ⟨A', n0, hA', hn0, hs0⟩ := hspell 0 (by simp)
    obtain ⟨B', n1, hB', hn1, hs1⟩ := hspell 1 (by simp)
    simp at hA' hB'
    subst hA' hB'
    obtain rfl : ns = [n0, n1] := by
      match ns, hln, hn0, hn1 with
      | [x, y], _, h0, h1 => simp at h0 h1; subst h0 h1; rfl
    rw [HV.out]
    have HF := Lib.hid (HS.out n0 n1 hs0 hs1)
    have hx2 := cells_later Hx1.out hb2
    have hb02 := below_step hb01 hb2
    have hw1 := hb01.size
    have hrows : Rows w2 3 w1.heap.size 1 v' [[.int .i64 n0], [.int .i64 n1]] := Rows.of_owns (by simpa using hown) (Nat.le_of_ble_eq_true rfl) (by simp)
    rcases rows_at hrows with ⟨_, h⟩ | ⟨g, off, cap, rfl, hgb, hg, hc⟩
    · cases h
    have y0 := hc 0 0 _ rfl
    have y1 := hc 1 0 _ rfl
    simp only [Nat.zero_mul, Nat.add_zero, Nat.one_mul, List.length_cons, List.length_nil, Nat.zero_add, Nat.reduceAdd] at y0 y1 ⊢
    have hgx : g ≠ w.heap.size := by have := lt_of_heap Hx1.out; omega
    have f0 := free_of hx2 0
    have f1 := free_of hx2 1
    have g0 := cell_at hx2 0 rfl
    have g1 := cell_at hx2 1 rfl
    have hgs : w2.grownBy ((w2.drew.setCell ⟨w.heap.size, 0, none⟩ (.int .i64 n0)).setCell ⟨w.heap.size, 1, none⟩ (.int .i64 n1)) (some w.heap.size) := gb_trans (gb_below (Below.refl w2.heap.size w2).drew _) (gb_trans (gb_setCell _ _ _ _) (gb_setCell _ _ _ _))
    have q0 : w2.drew.cell? ⟨g, off, none⟩ = some (.int .i64 n0) := y0
    have q1 : w2.drew.cell? ⟨g, off + 1, none⟩ = some (.int .i64 n1) := y1
    have r0 : (((w2.drew.setCell ⟨w.heap.size, 0, none⟩ (.int .i64 n0)).setCell ⟨w.heap.size, 1, none⟩ (.int .i64 n1))).cell? ⟨g, off, none⟩ = some (.int .i64 n0) := gb_cell hgs y0 hgx
    have r1 : (((w2.drew.setCell ⟨w.heap.size, 0, none⟩ (.int .i64 n0)).setCell ⟨w.heap.size, 1, none⟩ (.int .i64 n1))).cell? ⟨g, off + 1, none⟩ = some (.int .i64 n1) := gb_cell hgs y1 hgx
    have Hb2 := Lib.hid (below_step hb01 hb2).drew
    clear hrows hc hown hln hspell hn0 hn1 hs0 hs1 hx2 hb01 hb2 HV HS HsA HG Hx Hx1 y0 y1 hgs C2
    go_upto_region 5 with fail
    show Code.wp _ (Code.region 5 ops_40_5 true) _ _ _
    refine region_start 10 (fun w' => w'.cell? ⟨g, off, none⟩ = some (.int .i64 n0) ∧ w'.cell? ⟨g, off + 1, none⟩ = some (.int .i64 n1)) (by kernel_rfl) rfl ?_ (fun hHeld => ?_)
    · (first | exact ⟨q0, q1⟩ | exact ⟨r0, r1⟩)
    refine take_to 0 18 #[true, false, false, false, false, false, false, false, false, false] (v := ?_) ops_40_5_0 rfl ops_40_5_ns (by kernel_rfl) (by kernel_rfl) (fun _ _ _ h => h) (by rfl) ?y0 (by assumption) ?_
    case y0 =>
      intro w hSw
      try dsimp only at hSw
      go_simp
      try with_reducible rfl
    simp only [List.set_cons_zero, List.set_cons_succ]
    refine take_to 1 19 #[true, true, false, false, false, false, false, false, false, false] (v := ?_) ops_40_5_1 rfl ops_40_5_ns (by kernel_rfl) (by kernel_rfl) (fun _ _ _ h => h) (by rfl) ?y1 (by assumption) ?_
    case y1 =>
      intro w hSw
      try dsimp only at hSw
      go_simp
      try with_reducible rfl
    simp only [List.set_cons_zero, List.set_cons_succ]
    refine take_to 2 20 #[true, true, true, false, false, false, false, false, false, false] (v := ?_) ops_40_5_2 rfl ops_40_5_ns (by kernel_rfl) (by kernel_rfl) (fun _ _ _ h => h) (by rfl) ?y2 (by assumption) ?_
    case y2 =>
      intro w hSw
      try dsimp only at hSw
      go_simp
      try with_reducible rfl
    simp only [List.set_cons_zero, List.set_cons_succ]
    refine take_to 3 21 #[true, true, true, true, false, false, false, false, false, false] (v := ?_) ops_40_5_3 rfl ops_40_5_ns (by kernel_rfl) (by kernel_rfl) (fun _ _ _ h => h) (by rfl) ?y3 (by assumption) ?_
    case y3 =>
      intro w hSw
      try dsimp only at hSw
      go_simp
      try with_reducible rfl
    simp only [List.set_cons_zero, List.set_cons_succ]
    refine take_to 4 22 #[true, true, true, true, true, false, false, false, false, false] (v := ?_) ops_40_5_4 rfl ops_40_5_ns (by kernel_rfl) (by kernel_rfl) (fun _ _ _ h => h) (by rfl) ?y4 (by assumption) ?_
    case y4 =>
      intro w hSw
      try dsimp only at hSw
      go_simp
      try with_reducible rfl
    simp only [List.set_cons_zero, List.set_cons_succ]
    refine take_to 5 23 #[true, true, true, true, true, true, false, false, false, false] (v := ?_) ops_40_5_5 rfl ops_40_5_ns (by kernel_rfl) (by kernel_rfl) (fun _ _ _ h => h) (by rfl) ?y5 (by assumption) ?_
    case y5 =>
      intro w hSw
      try dsimp only at hSw
      go_simp
      try with_reducible rfl
    simp only [List.set_cons_zero, List.set_cons_succ]
    refine take_to 7 25 #[true, true, true, true, true, true, false, true, false, false] (v := ?_) ops_40_5_7 rfl ops_40_5_ns (by kernel_rfl) (by kernel_rfl) (fun _ _ _ h => h) (by rfl) ?y7 (by assumption) ?_
    case y7 =>
      intro w hSw
      try dsimp only at hSw
      go_simp
      try with_reducible rfl
    simp only [List.set_cons_zero, List.set_cons_succ]
    refine run_to 6 #[true, true, true, true, true, true, true, true, false, false] ops_40_5_6 (by kernel_rfl) (by kernel_rfl) (by rfl) (fun K hK => ?_)
    go_simp
    refine hK.out _ _ ?_ (fun hHeld => ?_)
    · (first | exact ⟨q0, q1⟩ | exact ⟨r0, r1⟩)
    clear hK K
    try simp only [Act.put, List.setIfInBounds_toArray, List.set_cons_zero, List.set_cons_succ]
    refine run_to 8 #[true, true, true, true, true, true, true, true, true, false] ops_40_5_8 (by kernel_rfl) (by kernel_rfl) (by rfl) (fun K hK => ?_)
    go_simp
    refine hK.out _ _ ?_ (fun hHeld => ?_)
    · (first | exact ⟨q0, q1⟩ | exact ⟨r0, r1⟩)
    clear hK K
    try simp only [List.setIfInBounds_toArray, List.set_cons_zero, List.set_cons_succ]
    refine take_to 9 3 #[true, true, true, true, true, true, true, true, true, true] (v := ?_) ops_40_5_9 rfl ops_40_5_ns (by kernel_rfl) (by kernel_rfl) (fun _ _ _ h => h) (by rfl) ?y9 (by assumption) ?_
    case y9 =>
      intro w hSw
      try dsimp only at hSw
      go_simp
      try with_reducible rfl
    simp only [List.set_cons_zero, List.set_cons_succ]
    refine wpAnyH_done (by kernel_rfl) ?_ _
    go_wp2_with fail
    try simp only [Exit.inBlock, Exit.then]
    refine bodyPost_ret (v := .tuple #[.agg #[.int .i64 n0, .int .i64 n1], .bool (fracV s.data.toList).isSome]) ?_ rfl ⟨(n0, n1), rfl, HF.out, (Hb2.out.setCell (p := ⟨w.heap.size, 0, none⟩) (Nat.le_refl _) _).setCell (p := ⟨w.heap.size, 1, none⟩) (Nat.le_refl _) _⟩
    rw [results_cell_tmp rfl]
    go_simp
  · have HV := Lib.hid (show (fracV s.data.toList).isSome = false by rw [h2]; rfl)
    have hne : ¬ P.length = 2 := by
      intro h
      apply h1
      rw [← Hsp.out, List.length_map]; exact h
    have HS := Lib.hid (show SpellsF s (0, 0) from ⟨⟨by unfold Int64; omega, by unfold Int64; omega⟩, fun g hg => by rw [h2] at hg; cases hg⟩)
    have e1 : ((P.length : Int) != 2) = true := by simp; omega
    clear h1 h2 Hsp Hsz hne
    go_enter Tryz.func40, Tryz.ntmps40
    go_wp2_with fail
    refine (C1.out _ hb0).mono ?_
    rintro e w1 ⟨rfl, -, hb1⟩
    have hx3 := cells_later Hx.out hb1
    have f0 := free_of hx3 0
    have f1 := free_of hx3 1
    have g0 := cell_at hx3 0 rfl
    have g1 := cell_at hx3 1 rfl
    have Hb3 := Lib.hid (below_step hb0 hb1)
    clear hb0 hb1 hx3 C1
    go_wp2_with fail
    try simp only [Exit.inBlock, Exit.then]
    refine bodyPost_ret (v := .tuple #[.agg #[.int .i64 0, .int .i64 0], .bool false]) ?_ rfl ⟨(0, 0), by rw [HV.out]; rfl, HS.out, (Hb3.out.setCell (p := ⟨w.heap.size, 0, none⟩) (Nat.le_refl _) _).setCell (p := ⟨w.heap.size, 1, none⟩) (Nat.le_refl _) _⟩
    rw [results_cell_tmp rfl]
    go_simp
end Go.Proofs.YtmejjkicagkogaaGreatDoor
