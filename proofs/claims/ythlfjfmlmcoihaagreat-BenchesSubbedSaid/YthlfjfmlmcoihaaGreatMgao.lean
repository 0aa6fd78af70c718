/- slices.Clone at fills. -/
import Derived.Test.YthlfjfmlmcoihaaGreatMgan
import Derived.Test.YthlfjfmlmcoihaaGreatMgak
import Derived.Test.YthlfjfmlmcoihaaGreatMgah
import Derived.Test.YthlfjfmlmcoihaaGreatMgae
/- FillsFault: the same as CheckFills, of right slots and scorers. -/
namespace Go.Proofs.YthlfjfmlmcoihaaGreat
open Go.RowKit

def fiE (ss : List SlD) (cs : List ScD) (fs : List FiD) : Int := if fs.length = ss.length then eachE fs.length fs.length (chF ss cs fs) else 3
theorem fiE_eq {ss : List SlD} {cs : List ScD} {fs : List FiD} (h : sdE ss cs = 0) : chkFi ss cs fs = fiE ss cs fs := by
  unfold chkFi fiE ch0
  rw [h]
  by_cases hl : fs.length = ss.length
  · have e : ((fs.length : Int) == (ss.length : Int)) = true := by rw [beq_iff_eq]; omega
    rw [e, if_pos hl]; simp [firstE, unlessE]
  · have e : ((fs.length : Int) == (ss.length : Int)) = false := by rw [beq_eq_false_iff_ne]; omega
    rw [e, if_neg hl]; simp [firstE, unlessE]
theorem ch_slot {ss : List SlD} {cs : List ScD} {fs : List FiD} {i : Nat} {f : FiD} {s : SlD} (hf : fs[i]? = some f) (hs : ss[i]? = some s) (h : beqS f.slot s.key = false) : chF ss cs fs i = 8 := by
  unfold chF; rw [fiAt_some hf, slAt_some hs, if_pos h]
theorem ch_empty {ss : List SlD} {cs : List ScD} {fs : List FiD} {i : Nat} {f : FiD} {s : SlD} (hf : fs[i]? = some f) (hs : ss[i]? = some s) (h : beqS f.slot s.key = true) (hz : f.who.size = 0) : chF ss cs fs i = 0 := by
  unfold chF; rw [fiAt_some hf, slAt_some hs, if_neg (by rw [h]; simp), if_pos hz]
theorem ch_rest {ss : List SlD} {cs : List ScD} {fs : List FiD} {i : Nat} {f : FiD} {s : SlD} (hf : fs[i]? = some f) (hs : ss[i]? = some s) (h : beqS f.slot s.key = true) (hz : f.who.size ≠ 0) :
    chF ss cs fs i = firstE [unlessE (knownB (cs.map ScD.who) f.who) 8, unlessE (!inF (fs.take i) f.who) 6, unlessE (suitB (fndC cs f.who) s) 10] := by
  unfold chF; rw [fiAt_some hf, slAt_some hs, if_neg (by rw [h]; simp), if_neg hz]
theorem fillsFault1_calls (f : FiD) (k : ByteArray) (X : Nat) (w : World) (hX : w.cell? ⟨X, 1, none⟩ = some (.string k)) :
    Calls Tryz.prog 67 #[.agg #[.string f.slot, .string f.who], .pointer (some ⟨X, 0, none⟩)] w (BoolIs (beqS f.who k) w) := by
  go_enter Tryz.func67, Tryz.ntmps67
  have hX1 := below_cell (below_alloc w (.cells #[.string f.slot, .string f.who] 49)) hX
  go_wp2_with fail
  go_ret
  exact ⟨ret_bool (by unfold beqS; rfl), below_alloc w _⟩
def ops_16_7 : Array Go.Oper := #[
  { dst := some 27, op := Go.Op.fieldAddr 49 (Go.Operand.tmp 8) 0, type := 0, pos := "scores.go:213", after := #[], guard := none },
  { dst := some 28, op := Go.Op.load 9 (Go.Operand.tmp 27), type := 9, pos := "scores.go:213", after := #[{ on := 0, ground := Go.Ground.data }], guard := none },
  { dst := some 29, op := Go.Op.move (Go.Operand.tmp 0), type := 26, pos := "scores.go:213", after := #[], guard := none },
  { dst := some 30, op := Go.Op.move (Go.Operand.tmp 7), type := 3, pos := "scores.go:213", after := #[], guard := none },
  { dst := some 31, op := Go.Op.indexAddr 26 (Go.Operand.tmp 29) (Go.Operand.tmp 30), type := 0, pos := "scores.go:213", after := #[{ on := 2, ground := Go.Ground.data }, { on := 3, ground := Go.Ground.data }], guard := none },
  { dst := some 32, op := Go.Op.fieldAddr 78 (Go.Operand.tmp 31) 0, type := 0, pos := "scores.go:213", after := #[{ on := 4, ground := Go.Ground.data }], guard := none },
  { dst := some 33, op := Go.Op.load 9 (Go.Operand.tmp 32), type := 9, pos := "scores.go:213", after := #[{ on := 5, ground := Go.Ground.data }], guard := none },
  { dst := some 34, op := Go.Op.binOp Go.BinOp.neq 9 (Go.Operand.tmp 28) (Go.Operand.tmp 33) 9, type := 4, pos := "scores.go:213", after := #[{ on := 1, ground := Go.Ground.data }, { on := 6, ground := Go.Ground.data }], guard := none },
  { dst := some 26, op := Go.Op.assign (Go.Operand.tmp 34), type := 4, pos := "scores.go:213", after := #[{ on := 7, ground := Go.Ground.data }], guard := none }]
theorem ops_16_7_0 : ops_16_7[0]? = some ({ dst := some 27, op := Go.Op.fieldAddr 49 (Go.Operand.tmp 8) 0, type := 0, pos := "scores.go:213", after := #[], guard := none } : Go.Oper) := rfl
theorem ops_16_7_1 : ops_16_7[1]? = some ({ dst := some 28, op := Go.Op.load 9 (Go.Operand.tmp 27), type := 9, pos := "scores.go:213", after := #[{ on := 0, ground := Go.Ground.data }], guard := none } : Go.Oper) := rfl
theorem ops_16_7_2 : ops_16_7[2]? = some ({ dst := some 29, op := Go.Op.move (Go.Operand.tmp 0), type := 26, pos := "scores.go:213", after := #[], guard := none } : Go.Oper) := rfl
theorem ops_16_7_3 : ops_16_7[3]? = some ({ dst := some 30, op := Go.Op.move (Go.Operand.tmp 7), type := 3, pos := "scores.go:213", after := #[], guard := none } : Go.Oper) := rfl
theorem ops_16_7_4 : ops_16_7[4]? = some ({ dst := some 31, op := Go.Op.indexAddr 26 (Go.Operand.tmp 29) (Go.Operand.tmp 30), type := 0, pos := "scores.go:213", after := #[{ on := 2, ground := Go.Ground.data }, { on := 3, ground := Go.Ground.data }], guard := none } : Go.Oper) := rfl
theorem ops_16_7_5 : ops_16_7[5]? = some ({ dst := some 32, op := Go.Op.fieldAddr 78 (Go.Operand.tmp 31) 0, type := 0, pos := "scores.go:213", after := #[{ on := 4, ground := Go.Ground.data }], guard := none } : Go.Oper) := rfl
theorem ops_16_7_6 : ops_16_7[6]? = some ({ dst := some 33, op := Go.Op.load 9 (Go.Operand.tmp 32), type := 9, pos := "scores.go:213", after := #[{ on := 5, ground := Go.Ground.data }], guard := none } : Go.Oper) := rfl
theorem ops_16_7_7 : ops_16_7[7]? = some ({ dst := some 34, op := Go.Op.binOp Go.BinOp.neq 9 (Go.Operand.tmp 28) (Go.Operand.tmp 33) 9, type := 4, pos := "scores.go:213", after := #[{ on := 1, ground := Go.Ground.data }, { on := 6, ground := Go.Ground.data }], guard := none } : Go.Oper) := rfl
theorem ops_16_7_8 : ops_16_7[8]? = some ({ dst := some 26, op := Go.Op.assign (Go.Operand.tmp 34), type := 4, pos := "scores.go:213", after := #[{ on := 7, ground := Go.Ground.data }], guard := none } : Go.Oper) := rfl
theorem ops_16_7_ns : Go.Region.noSelect ops_16_7 = true := by kernel_rfl
def ops_16_14 : Array Go.Oper := #[
  { dst := some 49, op := Go.Op.move (Go.Operand.tmp 0), type := 26, pos := "scores.go:220", after := #[], guard := none },
  { dst := some 50, op := Go.Op.move (Go.Operand.tmp 7), type := 3, pos := "scores.go:220", after := #[], guard := none },
  { dst := some 51, op := Go.Op.indexAddr 26 (Go.Operand.tmp 49) (Go.Operand.tmp 50), type := 0, pos := "scores.go:220", after := #[{ on := 0, ground := Go.Ground.data }, { on := 1, ground := Go.Ground.data }], guard := none },
  { dst := some 52, op := Go.Op.load 78 (Go.Operand.tmp 51), type := 78, pos := "scores.go:220", after := #[{ on := 2, ground := Go.Ground.data }], guard := none },
  { dst := some 53, op := Go.Op.move (Go.Operand.tmp 1), type := 28, pos := "scores.go:220", after := #[], guard := none },
  { dst := some 54, op := Go.Op.move (Go.Operand.tmp 9), type := 3, pos := "scores.go:220", after := #[], guard := none },
  { dst := some 55, op := Go.Op.indexAddr 28 (Go.Operand.tmp 53) (Go.Operand.tmp 54), type := 0, pos := "scores.go:220", after := #[{ on := 4, ground := Go.Ground.data }, { on := 5, ground := Go.Ground.data }], guard := none },
  { dst := some 56, op := Go.Op.load 83 (Go.Operand.tmp 55), type := 83, pos := "scores.go:220", after := #[{ on := 6, ground := Go.Ground.data }], guard := none },
  { dst := some 57, op := Go.Op.call { callee := Go.Callee.value (Go.Operand.func 68), args := #[Go.Operand.tmp 52, Go.Operand.tmp 56], argTypes := #[78, 83] }, type := 4, pos := "scores.go:220", after := #[{ on := 3, ground := Go.Ground.data }, { on := 7, ground := Go.Ground.data }], guard := none },
  { dst := some 58, op := Go.Op.unOp Go.UnOp.not 4 (Go.Operand.tmp 57), type := 4, pos := "scores.go:220", after := #[{ on := 8, ground := Go.Ground.data }], guard := none },
  { dst := some 48, op := Go.Op.assign (Go.Operand.tmp 58), type := 4, pos := "scores.go:220", after := #[{ on := 9, ground := Go.Ground.data }, { on := 8, ground := Go.Ground.chain }], guard := none }]
theorem ops_16_14_0 : ops_16_14[0]? = some ({ dst := some 49, op := Go.Op.move (Go.Operand.tmp 0), type := 26, pos := "scores.go:220", after := #[], guard := none } : Go.Oper) := rfl
theorem ops_16_14_1 : ops_16_14[1]? = some ({ dst := some 50, op := Go.Op.move (Go.Operand.tmp 7), type := 3, pos := "scores.go:220", after := #[], guard := none } : Go.Oper) := rfl
theorem ops_16_14_2 : ops_16_14[2]? = some ({ dst := some 51, op := Go.Op.indexAddr 26 (Go.Operand.tmp 49) (Go.Operand.tmp 50), type := 0, pos := "scores.go:220", after := #[{ on := 0, ground := Go.Ground.data }, { on := 1, ground := Go.Ground.data }], guard := none } : Go.Oper) := rfl
theorem ops_16_14_3 : ops_16_14[3]? = some ({ dst := some 52, op := Go.Op.load 78 (Go.Operand.tmp 51), type := 78, pos := "scores.go:220", after := #[{ on := 2, ground := Go.Ground.data }], guard := none } : Go.Oper) := rfl
theorem ops_16_14_4 : ops_16_14[4]? = some ({ dst := some 53, op := Go.Op.move (Go.Operand.tmp 1), type := 28, pos := "scores.go:220", after := #[], guard := none } : Go.Oper) := rfl
theorem ops_16_14_5 : ops_16_14[5]? = some ({ dst := some 54, op := Go.Op.move (Go.Operand.tmp 9), type := 3, pos := "scores.go:220", after := #[], guard := none } : Go.Oper) := rfl
theorem ops_16_14_6 : ops_16_14[6]? = some ({ dst := some 55, op := Go.Op.indexAddr 28 (Go.Operand.tmp 53) (Go.Operand.tmp 54), type := 0, pos := "scores.go:220", after := #[{ on := 4, ground := Go.Ground.data }, { on := 5, ground := Go.Ground.data }], guard := none } : Go.Oper) := rfl
theorem ops_16_14_7 : ops_16_14[7]? = some ({ dst := some 56, op := Go.Op.load 83 (Go.Operand.tmp 55), type := 83, pos := "scores.go:220", after := #[{ on := 6, ground := Go.Ground.data }], guard := none } : Go.Oper) := rfl
theorem ops_16_14_8 : ops_16_14[8]? = some ({ dst := some 57, op := Go.Op.call { callee := Go.Callee.value (Go.Operand.func 68), args := #[Go.Operand.tmp 52, Go.Operand.tmp 56], argTypes := #[78, 83] }, type := 4, pos := "scores.go:220", after := #[{ on := 3, ground := Go.Ground.data }, { on := 7, ground := Go.Ground.data }], guard := none } : Go.Oper) := rfl
theorem ops_16_14_9 : ops_16_14[9]? = some ({ dst := some 58, op := Go.Op.unOp Go.UnOp.not 4 (Go.Operand.tmp 57), type := 4, pos := "scores.go:220", after := #[{ on := 8, ground := Go.Ground.data }], guard := none } : Go.Oper) := rfl
theorem ops_16_14_10 : ops_16_14[10]? = some ({ dst := some 48, op := Go.Op.assign (Go.Operand.tmp 58), type := 4, pos := "scores.go:220", after := #[{ on := 9, ground := Go.Ground.data }, { on := 8, ground := Go.Ground.chain }], guard := none } : Go.Oper) := rfl
theorem ops_16_14_ns : Go.Region.noSelect ops_16_14 = true := by kernel_rfl
/-- Where a scorer is, and who it is. -/
def AtV (cs : List ScD) (k : ByteArray) (v : Int) : Prop := (v = -1 ∧ knownB (cs.map ScD.who) k = false) ∨ ∃ q : Nat, v = (q : Int) ∧ cs[q]? = some (fndC cs k) ∧ knownB (cs.map ScD.who) k = true
theorem at_of {cs : List ScD} {k : ByteArray} {w w' : World} {e : Ending} (hs : SortedK (cs.map ScD.who)) (h : IdxFirstC (fun c => beqS c.who k) cs w e w') : ∃ v : Int, e = .returned (.int .i64 v) ∧ AtV cs k v := by
  rcases h.1 with ⟨rfl, h0⟩ | ⟨i, c, rfl, hc, hk, _⟩
  · exact ⟨_, rfl, .inl ⟨rfl, (fnd_none hs h0).1⟩⟩
  · obtain ⟨h1, _, h3⟩ := fnd_at hs hc (beqS_iff.1 hk)
    exact ⟨_, rfl, .inr ⟨i, rfl, by rw [h3]; exact hc, h1⟩⟩
set_option maxRecDepth 100000 in
set_option maxHeartbeats 16000000 in
theorem fillsFault_calls (lo lo' lo3 : Nat) (v u z : Value) (ss : List SlD) (cs : List ScD) (fs : List FiD) (w : World) (hS : Sls w lo' v ss) (hC : Scs w lo u cs) (hsort : SortedK (cs.map ScD.who)) (hcn : cs.length ≤ 1000000) (hF : Fis w lo3 z fs) (hfn : fs.length ≤ 1000000) :
    Calls Tryz.prog 16 #[v, u, z] w (IntBelow (fiE ss cs fs) w) := by
  have HS := Lib.hid hS
  have HC := Lib.hid hC
  have HF := Lib.hid hF
  have Hsort := Lib.hid hsort
  obtain ⟨sa, sc, rfl⟩ := NRows.shape hS
  obtain ⟨ca, cc, rfl⟩ := NRows.shape hC
  obtain ⟨fa, fc, rfl⟩ := fis_shape hF
  clear hS hC hF hsort
  by_cases hl : fs.length = ss.length
  · have HE := Lib.hid (show fiE ss cs fs = eachE fs.length fs.length (chF ss cs fs) by unfold fiE; rw [if_pos hl])
    have Hl := Lib.hid hl
    rw [HE.out, ← hl]
    clear hl
    have Hm := Lib.hid (show (fs.length : Int) ≤ fs.length by omega)
    go_enter Tryz.func16, Tryz.ntmps16
    go_wp2_with fail
    go_loopw [17] (fun i wr => ∃ k : Nat, k ≤ fs.length ∧ i = .int .i64 k ∧ Hid (∀ i, i < k → chF ss cs fs i = 0) ∧ Below w.heap.size w wr) (fun i _ => fs.length - (intOf i).toNat)
    case atStart => exact ⟨0, Nat.zero_le _, rfl, Lib.hid (fun i hi => by omega), Below.refl _ _⟩
    case round =>
      obtain ⟨k, hk, rfl, H0, hb⟩ := hrel
      by_cases hlt : k < fs.length
      · obtain ⟨f, hf⟩ : ∃ f, fs[k]? = some f := ⟨_, List.getElem?_eq_getElem hlt⟩
        obtain ⟨s, hs⟩ : ∃ s, ss[k]? = some s := ⟨_, List.getElem?_eq_getElem (by have := Hl.out; omega)⟩
        have Hhit := Lib.hid (fun (h : chF ss cs fs k ≠ 0) => (show eachE fs.length fs.length (chF ss cs fs) = chF ss cs fs k from eachE_hit Hm.out hlt H0.out h))
        have Hnext := Lib.hid (fun (h : chF ss cs fs k = 0) i (hi : i < k + 1) => (show chF ss cs fs i = 0 by
          rcases Nat.lt_succ_iff_lt_or_eq.1 hi with h' | rfl
          · exact H0.out i h'
          · exact h))
        have Hslot := Lib.hid (ch_slot (cs := cs) hf hs)
        have Hempty := Lib.hid (ch_empty (cs := cs) hf hs)
        have Hrest := Lib.hid (ch_rest (cs := cs) hf hs)
        rcases fis_at HF.out with ⟨_, h⟩ | ⟨g, off, cap, e, _, hg, _, hcell⟩
        · rw [h] at hlt; simp at hlt
        simp only [Value.slice.injEq] at e
        obtain ⟨rfl, -, rfl⟩ := e
        obtain ⟨q0, q1⟩ := hcell k f hf
        have q0 := below_cell hb q0
        have q1 := below_cell hb q1
        rcases sls_at HS.out with ⟨_, h⟩ | ⟨g', off', cap', e, _, hg', _, hcell'⟩
        · rw [h] at hs; simp at hs
        simp only [Value.slice.injEq] at e
        obtain ⟨rfl, -, rfl⟩ := e
        obtain ⟨pv, s0, s1, hpv⟩ := hcell' k s hs
        have Hpv := Lib.hid hpv
        obtain ⟨pa, pc, rfl⟩ := strs_shape hpv
        have s0 := below_cell hb s0
        have s1 := below_cell hb s1
        have hfit : fs.length ≤ fc := by have := Rows.fits HF.out; simpa using this
        have hic : k ≤ fc := by omega
        have hil : k ≤ fs.length := by omega
        have hlt' : (k : Int) < (fs.length : Int) := by omega
        clear hcell hcell' hf hs hpv
        go_upto_region 6 with fail
        obtain ⟨W, hW⟩ : ∃ W, W = wr.alloc (.cells #[.string f.slot, .string f.who] 49) := ⟨_, rfl⟩
        have hbW : Below w.heap.size w W := by rw [hW]; exact below_step hb (below_alloc wr _)
        have hx : W.heap[wr.heap.size]? = some (.cells #[.string f.slot, .string f.who] 49 (0, 0)) := by rw [hW]; exact heap_alloc_new wr _
        have hbrW : Below wr.heap.size wr W := by rw [hW]; exact below_alloc wr _
        rw [← hW]
        have x0 := cell_at hx 0 rfl
        have x1 := cell_at hx 1 rfl
        have s0 := below_cell hbrW s0
        have s1 := below_cell hbrW s1
        have HS7 := Lib.hid (show ∀ w', Below W.heap.size W w' → (Below W.heap.size W w' ∧ w'.cell? ⟨wr.heap.size, 0, none⟩ = some (.string f.slot) ∧ w'.cell? ⟨wr.heap.size, 1, none⟩ = some (.string f.who) ∧ w'.cell? ⟨g', off' + k * 2, none⟩ = some (.string s.key) ∧ w'.cell? ⟨g', off' + k * 2 + 1, none⟩ = some (.slice pa s.pos.length pc)) from fun w' hb => ⟨hb, below_cell hb x0, below_cell hb x1, below_cell hb s0, below_cell hb s1⟩)
        have e1 : (!(f.slot.toList == s.key.toList)) = !beqS f.slot s.key := rfl
        generalize hX : wr.heap.size = X at HS7 hx x0 x1 ⊢
        clear hW hbrW hX q0 q1 hx hb s0 s1 x0
        go_wp2_with fail
        refine (scorerAt_calls lo _ cs f.who W (NRows.below HC.out hbW)).mono ?_
        rintro e w1 hat
        have hb1 := hat.2
        obtain ⟨kv, rfl, hkv⟩ := at_of Hsort.out hat
        have Hkv := Lib.hid hkv
        have Hk := Lib.hid (show kv < 0 ∨ 0 ≤ kv by omega)
        clear hat hkv x1
        go_upto_region 7 with fail
        have hb0 := hb1.drew
        show Code.wp _ (Code.region 7 ops_16_7 true) _ _ _
        refine region_start 9 (fun w' => Below W.heap.size W w' ∧ w'.cell? ⟨X, 0, none⟩ = some (.string f.slot) ∧ w'.cell? ⟨X, 1, none⟩ = some (.string f.who) ∧ w'.cell? ⟨g', off' + k * 2, none⟩ = some (.string s.key) ∧ w'.cell? ⟨g', off' + k * 2 + 1, none⟩ = some (.slice pa s.pos.length pc)) (by kernel_rfl) rfl ?_ (fun hHeld => ?_)
        · (exact HS7.out _ (by first | assumption | exact hHeld.1 | exact below_step hHeld.1 (by assumption) | exact below_step hHeld.1 (below_alloc _ _)))
        refine take_to 0 27 #[true, false, false, false, false, false, false, false, false] (v := ?_) ops_16_7_0 rfl ops_16_7_ns (by kernel_rfl) (by kernel_rfl) (fun _ _ _ h => h) (by rfl) ?y07 (by assumption) ?_
        case y07 =>
          intro w hSw
          try dsimp only at hSw
          go_simp
          try with_reducible rfl
        simp only [List.set_cons_zero, List.set_cons_succ]
        refine take_to 1 28 #[true, true, false, false, false, false, false, false, false] (v := ?_) ops_16_7_1 rfl ops_16_7_ns (by kernel_rfl) (by kernel_rfl) (fun _ _ _ h => h) (by rfl) ?y17 (by assumption) ?_
        case y17 =>
          intro w hSw
          try dsimp only at hSw
          go_simp
          try with_reducible rfl
        simp only [List.set_cons_zero, List.set_cons_succ]
        refine take_to 2 29 #[true, true, true, false, false, false, false, false, false] (v := ?_) ops_16_7_2 rfl ops_16_7_ns (by kernel_rfl) (by kernel_rfl) (fun _ _ _ h => h) (by rfl) ?y27 (by assumption) ?_
        case y27 =>
          intro w hSw
          try dsimp only at hSw
          go_simp
          try with_reducible rfl
        simp only [List.set_cons_zero, List.set_cons_succ]
        refine take_to 3 30 #[true, true, true, true, false, false, false, false, false] (v := ?_) ops_16_7_3 rfl ops_16_7_ns (by kernel_rfl) (by kernel_rfl) (fun _ _ _ h => h) (by rfl) ?y37 (by assumption) ?_
        case y37 =>
          intro w hSw
          try dsimp only at hSw
          go_simp
          try with_reducible rfl
        simp only [List.set_cons_zero, List.set_cons_succ]
        refine take_to 4 31 #[true, true, true, true, true, false, false, false, false] (v := ?_) ops_16_7_4 rfl ops_16_7_ns (by kernel_rfl) (by kernel_rfl) (fun _ _ _ h => h) (by rfl) ?y47 (by assumption) ?_
        case y47 =>
          intro w hSw
          try dsimp only at hSw
          go_simp
          try with_reducible rfl
        simp only [List.set_cons_zero, List.set_cons_succ]
        refine take_to 5 32 #[true, true, true, true, true, true, false, false, false] (v := ?_) ops_16_7_5 rfl ops_16_7_ns (by kernel_rfl) (by kernel_rfl) (fun _ _ _ h => h) (by rfl) ?y57 (by assumption) ?_
        case y57 =>
          intro w hSw
          try dsimp only at hSw
          go_simp
          try with_reducible rfl
        simp only [List.set_cons_zero, List.set_cons_succ]
        refine take_to 6 33 #[true, true, true, true, true, true, true, false, false] (v := ?_) ops_16_7_6 rfl ops_16_7_ns (by kernel_rfl) (by kernel_rfl) (fun _ _ _ h => h) (by rfl) ?y67 (by assumption) ?_
        case y67 =>
          intro w hSw
          try dsimp only at hSw
          go_simp
          try with_reducible rfl
        simp only [List.set_cons_zero, List.set_cons_succ]
        refine take_to 7 34 #[true, true, true, true, true, true, true, true, false] (v := ?_) ops_16_7_7 rfl ops_16_7_ns (by kernel_rfl) (by kernel_rfl) (fun _ _ _ h => h) (by rfl) ?y77 (by assumption) ?_
        case y77 =>
          intro w hSw
          try dsimp only at hSw
          go_simp
          try with_reducible rfl
        simp only [List.set_cons_zero, List.set_cons_succ]
        refine take_to 8 26 #[true, true, true, true, true, true, true, true, true] (v := ?_) ops_16_7_8 rfl ops_16_7_ns (by kernel_rfl) (by kernel_rfl) (fun _ _ _ h => h) (by rfl) ?y87 (by assumption) ?_
        case y87 =>
          intro w hSw
          try dsimp only at hSw
          go_simp
          try with_reducible rfl
        simp only [List.set_cons_zero, List.set_cons_succ]
        refine wpAnyH_done (by kernel_rfl) ?_ _
        have hb7 := hHeld.1
        obtain ⟨-, d0, d1, d2, d3⟩ := hHeld
        cases hq : beqS f.slot s.key
        · rw [hq] at e1
          have Hv := Lib.hid (Hslot.out hq)
          clear hq d0 d1 d2 d3
          go_wp2_with fail
          go_ret
          exact ⟨ret_int (by rw [Hhit.out (by rw [Hv.out]; decide), Hv.out]), below_step hbW hb7⟩
        · rw [hq] at e1
          by_cases hz : f.who.size = 0
          · have e2 : f.who.toList.isEmpty = true := by rw [empty_of]; exact decide_eq_true hz
            have Hv := Lib.hid (Hempty.out hq hz)
            clear hq hz d0 d2 d3
            go_wp2_with fail
            go_roundw
            case rel => exact ⟨k + 1, by omega, by go_num, Lib.hid (Hnext.out Hv.out), below_step hbW hb7⟩
            case measure => simp [intOf]; omega
          · have e2 : f.who.toList.isEmpty = false := by rw [empty_of]; exact decide_eq_false hz
            have Hv := Lib.hid (Hrest.out hq hz)
            clear hq hz
            rcases Hkv.out with ⟨rfl, hkn⟩ | ⟨q, rfl, hcq, hkn⟩
            · rw [hkn] at Hv
              clear hkn d0 d2 d3
              go_wp2_with fail
              go_ret
              exact ⟨ret_int (by rw [Hhit.out (by rw [Hv.out]; simp [firstE, unlessE]), Hv.out]; simp [firstE, unlessE]), below_step hbW hb7⟩
            · rw [hkn] at Hv
              have Hcq := Lib.hid hcq
              have hqn : q < cs.length := (List.getElem?_eq_some_iff.1 hcq).1
              have hqn' : (q : Int) < (cs.length : Int) := by omega
              have CF := Lib.hid (containsFi_calls 67 #[.pointer (some ⟨X, 0, none⟩)] (fun o => beqS o.who f.who) lo3 _ (fs.take k) _ ((fis_take HF.out rfl (by omega : k ≤ fs.length)).below (below_step hbW hb7)) (by intro args w; go_simp) (fun V o hb => fillsFault1_calls o f.who X V (below_cell hb d1)))
              rw [show (fs.take k).any (fun o => beqS o.who f.who) = inF (fs.take k) f.who from rfl] at CF
              generalize inF (fs.take k) f.who = fb at CF Hv
              clear hkn hcq d0 d2 d3
              go_wp2_with fail
              refine CF.out.mono ?_
              rintro e w8 ⟨rfl, hb8⟩
              clear CF
              cases fb
              · rcases scs_at HC.out with ⟨_, h⟩ | ⟨cg, coff, ccap, e, _, hcg, _, hcell⟩
                · have := Hcq.out; rw [h] at this; simp at this
                simp only [Value.slice.injEq] at e
                obtain ⟨rfl, -, rfl⟩ := e
                generalize fndC cs f.who = Fc at Hv Hcq
                obtain ⟨cv, r0, r1, r2, r3, r4, hcv⟩ := hcell q Fc Hcq.out
                have Hcv := Lib.hid hcv
                obtain ⟨xa, xc, rfl⟩ := strs_shape hcv
                have hb78 := below_step hb7 hb8
                have hbw8 := below_step hbW hb78
                have HR := Lib.hid (show ∀ w', Below w8.heap.size w8 w' → (Below w8.heap.size w8 w' ∧ w'.cell? ⟨g', off' + k * 2, none⟩ = some (.string s.key) ∧ w'.cell? ⟨g', off' + k * 2 + 1, none⟩ = some (.slice pa s.pos.length pc) ∧ w'.cell? ⟨cg, coff + q * 5, none⟩ = some (.string Fc.who) ∧ w'.cell? ⟨cg, coff + q * 5 + 1, none⟩ = some (.slice xa Fc.pos.length xc) ∧ w'.cell? ⟨cg, coff + q * 5 + 2, none⟩ = some (.int .i64 Fc.num) ∧ w'.cell? ⟨cg, coff + q * 5 + 3, none⟩ = some (.int .i64 Fc.den) ∧ w'.cell? ⟨cg, coff + q * 5 + 4, none⟩ = some (.bool Fc.played)) from fun w' hb => ⟨hb, (HS7.out _ (below_step hb78 hb)).2.2.2.1, (HS7.out _ (below_step hb78 hb)).2.2.2.2, below_cell hb (below_cell hbw8 r0), below_cell hb (below_cell hbw8 r1), below_cell hb (below_cell hbw8 r2), below_cell hb (below_cell hbw8 r3), below_cell hb (below_cell hbw8 r4)⟩)
                have hb0 := (Below.refl w8.heap.size w8).drew
                clear r0 r1 r2 r3 r4 hcv hcell
                go_upto_region 14 with fail
                show Code.wp _ (Code.region 14 ops_16_14 true) _ _ _
                refine region_start 11 (fun w' => Below w8.heap.size w8 w' ∧ w'.cell? ⟨g', off' + k * 2, none⟩ = some (.string s.key) ∧ w'.cell? ⟨g', off' + k * 2 + 1, none⟩ = some (.slice pa s.pos.length pc) ∧ w'.cell? ⟨cg, coff + q * 5, none⟩ = some (.string Fc.who) ∧ w'.cell? ⟨cg, coff + q * 5 + 1, none⟩ = some (.slice xa Fc.pos.length xc) ∧ w'.cell? ⟨cg, coff + q * 5 + 2, none⟩ = some (.int .i64 Fc.num) ∧ w'.cell? ⟨cg, coff + q * 5 + 3, none⟩ = some (.int .i64 Fc.den) ∧ w'.cell? ⟨cg, coff + q * 5 + 4, none⟩ = some (.bool Fc.played)) (by kernel_rfl) rfl ?_ (fun hHeld => ?_)
                · (exact HR.out _ (by first | assumption | exact hHeld.1 | exact below_step hHeld.1 (by assumption) | exact below_step hHeld.1 (below_alloc _ _)))
                refine take_to 0 49 #[true, false, false, false, false, false, false, false, false, false, false] (v := ?_) ops_16_14_0 rfl ops_16_14_ns (by kernel_rfl) (by kernel_rfl) (fun _ _ _ h => h) (by rfl) ?y0e (by assumption) ?_
                case y0e =>
                  intro w hSw
                  try dsimp only at hSw
                  go_simp
                  try with_reducible rfl
                simp only [List.set_cons_zero, List.set_cons_succ]
                refine take_to 1 50 #[true, true, false, false, false, false, false, false, false, false, false] (v := ?_) ops_16_14_1 rfl ops_16_14_ns (by kernel_rfl) (by kernel_rfl) (fun _ _ _ h => h) (by rfl) ?y1e (by assumption) ?_
                case y1e =>
                  intro w hSw
                  try dsimp only at hSw
                  go_simp
                  try with_reducible rfl
                simp only [List.set_cons_zero, List.set_cons_succ]
                refine take_to 2 51 #[true, true, true, false, false, false, false, false, false, false, false] (v := ?_) ops_16_14_2 rfl ops_16_14_ns (by kernel_rfl) (by kernel_rfl) (fun _ _ _ h => h) (by rfl) ?y2e (by assumption) ?_
                case y2e =>
                  intro w hSw
                  try dsimp only at hSw
                  go_simp
                  try with_reducible rfl
                simp only [List.set_cons_zero, List.set_cons_succ]
                refine take_to 3 52 #[true, true, true, true, false, false, false, false, false, false, false] (v := ?_) ops_16_14_3 rfl ops_16_14_ns (by kernel_rfl) (by kernel_rfl) (fun _ _ _ h => h) (by rfl) ?y3e (by assumption) ?_
                case y3e =>
                  intro w hSw
                  try dsimp only at hSw
                  go_simp
                  try with_reducible rfl
                simp only [List.set_cons_zero, List.set_cons_succ]
                refine take_to 4 53 #[true, true, true, true, true, false, false, false, false, false, false] (v := ?_) ops_16_14_4 rfl ops_16_14_ns (by kernel_rfl) (by kernel_rfl) (fun _ _ _ h => h) (by rfl) ?y4e (by assumption) ?_
                case y4e =>
                  intro w hSw
                  try dsimp only at hSw
                  go_simp
                  try with_reducible rfl
                simp only [List.set_cons_zero, List.set_cons_succ]
                refine take_to 5 54 #[true, true, true, true, true, true, false, false, false, false, false] (v := ?_) ops_16_14_5 rfl ops_16_14_ns (by kernel_rfl) (by kernel_rfl) (fun _ _ _ h => h) (by rfl) ?y5e (by assumption) ?_
                case y5e =>
                  intro w hSw
                  try dsimp only at hSw
                  go_simp
                  try with_reducible rfl
                simp only [List.set_cons_zero, List.set_cons_succ]
                refine take_to 6 55 #[true, true, true, true, true, true, true, false, false, false, false] (v := ?_) ops_16_14_6 rfl ops_16_14_ns (by kernel_rfl) (by kernel_rfl) (fun _ _ _ h => h) (by rfl) ?y6e (by assumption) ?_
                case y6e =>
                  intro w hSw
                  try dsimp only at hSw
                  go_simp
                  try with_reducible rfl
                simp only [List.set_cons_zero, List.set_cons_succ]
                refine take_to 7 56 #[true, true, true, true, true, true, true, true, false, false, false] (v := ?_) ops_16_14_7 rfl ops_16_14_ns (by kernel_rfl) (by kernel_rfl) (fun _ _ _ h => h) (by rfl) ?y7e (by assumption) ?_
                case y7e =>
                  intro w hSw
                  try dsimp only at hSw
                  go_simp
                  try with_reducible rfl
                simp only [List.set_cons_zero, List.set_cons_succ]
                refine run_to 8 #[true, true, true, true, true, true, true, true, true, false, false] ops_16_14_8 (by kernel_rfl) (by kernel_rfl) (by rfl) (fun K hK => ?_)
                go_simp
                refine (fit_calls _ _ (.slice xa Fc.pos.length xc) (.slice pa s.pos.length pc) Fc s _ (Hcv.out.below (hbw8.trans (hHeld.1.mono hbw8.size))) (Hpv.out.below (hbw8.trans (hHeld.1.mono hbw8.size)))).mono ?_
                rintro e w' ⟨rfl, hb⟩
                go_wp2_with fail
                refine hK.out _ _ ?_ (fun hHeld => ?_)
                · (exact HR.out _ (by first | assumption | exact hHeld.1 | exact below_step hHeld.1 (by assumption) | exact below_step hHeld.1 (below_alloc _ _)))
                clear hK K
                try simp only [Act.put, List.setIfInBounds_toArray, List.set_cons_zero, List.set_cons_succ]
                refine take_to 9 58 #[true, true, true, true, true, true, true, true, true, true, false] (v := ?_) ops_16_14_9 rfl ops_16_14_ns (by kernel_rfl) (by kernel_rfl) (fun _ _ _ h => h) (by rfl) ?y9e (by assumption) ?_
                case y9e =>
                  intro w hSw
                  try dsimp only at hSw
                  go_simp
                  try with_reducible rfl
                simp only [List.set_cons_zero, List.set_cons_succ]
                refine take_to 10 48 #[true, true, true, true, true, true, true, true, true, true, true] (v := ?_) ops_16_14_10 rfl ops_16_14_ns (by kernel_rfl) (by kernel_rfl) (fun _ _ _ h => h) (by rfl) ?y10e (by assumption) ?_
                case y10e =>
                  intro w hSw
                  try dsimp only at hSw
                  go_simp
                  try with_reducible rfl
                simp only [List.set_cons_zero, List.set_cons_succ]
                refine wpAnyH_done (by kernel_rfl) ?_ _
                have hb9 := hHeld.1
                clear hHeld
                rw [← suit_fit]
                cases hsu : suitB Fc s
                · rw [hsu] at Hv
                  clear hsu
                  go_wp2_with fail
                  go_ret
                  exact ⟨ret_int (by rw [Hhit.out (by rw [Hv.out]; simp [firstE, unlessE]), Hv.out]; simp [firstE, unlessE]), below_step hbw8 hb9⟩
                · rw [hsu] at Hv
                  clear hsu
                  go_wp2_with fail
                  go_roundw
                  case rel => exact ⟨k + 1, by omega, by go_num, Lib.hid (Hnext.out (by rw [Hv.out]; simp [firstE, unlessE])), below_step hbw8 hb9⟩
                  case measure => simp [intOf]; omega
              · clear d1
                go_wp2_with fail
                go_ret
                exact ⟨ret_int (by rw [Hhit.out (by rw [Hv.out]; simp [firstE, unlessE]), Hv.out]; simp [firstE, unlessE]), below_step (below_step hbW hb7) hb8⟩
      · obtain rfl : k = fs.length := by omega
        have Hnone := Lib.hid (show eachE fs.length fs.length (chF ss cs fs) = 0 from eachE_none Hm.out H0.out)
        go_wp2_with fail
        go_ret
        exact ⟨ret_int Hnone.out.symm, hb⟩
  · have HE := Lib.hid (show fiE ss cs fs = 3 by unfold fiE; rw [if_neg hl])
    have hne : ((fs.length : Int) != (ss.length : Int)) = true := by simp; omega
    rw [HE.out]
    clear hl
    go_enter Tryz.func16, Tryz.ntmps16
    go_wp2_with fail
    go_ret
    exact ⟨rfl, Below.refl _ _⟩
end Go.Proofs.YthlfjfmlmcoihaaGreat
/- BenchFault: the same as wrongNames, of scorers whose names rise. -/
namespace Go.Proofs.YthlfjfmlmcoihaaGreat
open Go.RowKit

theorem benchFault1_calls (f : FiD) (k : ByteArray) (X : Nat) (w : World) (hX : w.cell? ⟨X, 0, none⟩ = some (.string k)) :
    Calls Tryz.prog 96 #[.agg #[.string f.slot, .string f.who], .pointer (some ⟨X, 0, none⟩)] w (BoolIs (beqS f.who k) w) := by
  go_enter Tryz.func96, Tryz.ntmps96
  have hX1 := below_cell (below_alloc w (.cells #[.string f.slot, .string f.who] 49)) hX
  go_wp2_with fail
  go_ret
  exact ⟨ret_bool (by unfold beqS; rfl), below_alloc w _⟩
def ops_42_8 : Array Go.Oper := #[
  { dst := some 25, op := Go.Op.move (Go.Operand.tmp 2), type := 39, pos := "scores.go:314", after := #[], guard := none },
  { dst := some 26, op := Go.Op.move (Go.Operand.tmp 7), type := 3, pos := "scores.go:314", after := #[], guard := none },
  { dst := some 27, op := Go.Op.slice 39 (Go.Operand.tmp 25) none (some (Go.Operand.tmp 26)) none, type := 39, pos := "scores.go:314", after := #[{ on := 0, ground := Go.Ground.data }, { on := 1, ground := Go.Ground.data }], guard := none },
  { dst := some 28, op := Go.Op.load 9 (Go.Operand.tmp 8), type := 9, pos := "scores.go:314", after := #[], guard := none },
  { dst := some 29, op := Go.Op.call { callee := Go.Callee.value (Go.Operand.func 52), args := #[Go.Operand.tmp 27, Go.Operand.tmp 28], argTypes := #[39, 9] }, type := 4, pos := "scores.go:314", after := #[{ on := 2, ground := Go.Ground.data }, { on := 3, ground := Go.Ground.data }], guard := none },
  { dst := some 24, op := Go.Op.assign (Go.Operand.tmp 29), type := 4, pos := "scores.go:314", after := #[{ on := 4, ground := Go.Ground.data }, { on := 4, ground := Go.Ground.chain }], guard := none }]
theorem ops_42_8_0 : ops_42_8[0]? = some ({ dst := some 25, op := Go.Op.move (Go.Operand.tmp 2), type := 39, pos := "scores.go:314", after := #[], guard := none } : Go.Oper) := rfl
theorem ops_42_8_1 : ops_42_8[1]? = some ({ dst := some 26, op := Go.Op.move (Go.Operand.tmp 7), type := 3, pos := "scores.go:314", after := #[], guard := none } : Go.Oper) := rfl
theorem ops_42_8_2 : ops_42_8[2]? = some ({ dst := some 27, op := Go.Op.slice 39 (Go.Operand.tmp 25) none (some (Go.Operand.tmp 26)) none, type := 39, pos := "scores.go:314", after := #[{ on := 0, ground := Go.Ground.data }, { on := 1, ground := Go.Ground.data }], guard := none } : Go.Oper) := rfl
theorem ops_42_8_3 : ops_42_8[3]? = some ({ dst := some 28, op := Go.Op.load 9 (Go.Operand.tmp 8), type := 9, pos := "scores.go:314", after := #[], guard := none } : Go.Oper) := rfl
theorem ops_42_8_4 : ops_42_8[4]? = some ({ dst := some 29, op := Go.Op.call { callee := Go.Callee.value (Go.Operand.func 52), args := #[Go.Operand.tmp 27, Go.Operand.tmp 28], argTypes := #[39, 9] }, type := 4, pos := "scores.go:314", after := #[{ on := 2, ground := Go.Ground.data }, { on := 3, ground := Go.Ground.data }], guard := none } : Go.Oper) := rfl
theorem ops_42_8_5 : ops_42_8[5]? = some ({ dst := some 24, op := Go.Op.assign (Go.Operand.tmp 29), type := 4, pos := "scores.go:314", after := #[{ on := 4, ground := Go.Ground.data }, { on := 4, ground := Go.Ground.chain }], guard := none } : Go.Oper) := rfl
theorem ops_42_8_ns : Go.Region.noSelect ops_42_8 = true := by kernel_rfl
set_option maxRecDepth 100000 in
set_option maxHeartbeats 16000000 in
theorem benchFault_calls (lo lo' lo3 : Nat) (v u z : Value) (cs : List ScD) (fs : List FiD) (ks : List ByteArray) (w : World) (hC : Scs w lo v cs) (hsort : SortedK (cs.map ScD.who)) (hcn : cs.length ≤ 1000000) (hF : Fis w lo3 u fs) (hfn : fs.length ≤ 1000000) (hK : Strs w lo' z ks) (hkn : ks.length ≤ 1000000) :
    Calls Tryz.prog 42 #[v, u, z] w (IntBelow (wnE cs fs ks) w) := by
  have HC := Lib.hid hC
  have HF := Lib.hid hF
  have HK := Lib.hid hK
  have Hsort := Lib.hid hsort
  obtain ⟨ca, cc, rfl⟩ := NRows.shape hC
  obtain ⟨fa, fc, rfl⟩ := fis_shape hF
  obtain ⟨ka, kc, rfl⟩ := strs_shape hK
  clear hC hF hsort hK
  have HE0 := Lib.hid (show wnE cs fs ks = eachE ks.length 20 (wnF cs fs ks) from rfl)
  rw [HE0.out]
  by_cases hm : ks.length ≤ 20
  · have Hm := Lib.hid (show (ks.length : Int) ≤ 20 by omega)
    go_enter Tryz.func42, Tryz.ntmps42
    go_wp2_with fail
    go_loopw [14] (fun i wr => ∃ k : Nat, k ≤ ks.length ∧ i = .int .i64 k ∧ Hid (∀ i, i < k → wnF cs fs ks i = 0) ∧ Below w.heap.size w wr) (fun i _ => ks.length - (intOf i).toNat)
    case atStart => exact ⟨0, Nat.zero_le _, rfl, Lib.hid (fun i hi => by omega), Below.refl _ _⟩
    case round =>
      obtain ⟨k, hk, rfl, H0, hb⟩ := hrel
      by_cases hlt : k < ks.length
      · obtain ⟨s, hs⟩ : ∃ s, ks[k]? = some s := ⟨_, List.getElem?_eq_getElem hlt⟩
        have Hhit := Lib.hid (fun (h : wnF cs fs ks k ≠ 0) => (show eachE ks.length 20 (wnF cs fs ks) = wnF cs fs ks k from eachE_hit Hm.out hlt H0.out h))
        have Hnext := Lib.hid (fun (h : wnF cs fs ks k = 0) i (hi : i < k + 1) => (show wnF cs fs ks i = 0 by
          rcases Nat.lt_succ_iff_lt_or_eq.1 hi with h' | rfl
          · exact H0.out i h'
          · exact h))
        have Hv := Lib.hid (show wnF cs fs ks k = firstE [unlessE (knownB (cs.map ScD.who) s) 8, unlessE (!cnS (ks.take k) s) 6, unlessE (!inF fs s) 13] by unfold wnF; rw [stAt_some hs])
        rcases strs_at HK.out with ⟨_, h⟩ | ⟨g, off, cap, e, _, hg, _, hcell⟩
        · rw [h] at hlt; simp at hlt
        simp only [Value.slice.injEq] at e
        obtain ⟨rfl, -, rfl⟩ := e
        have q0 := below_cell hb (hcell k s hs)
        have hfit : ks.length ≤ kc := Rows.fits HK.out
        have hic : k ≤ kc := by omega
        have hil : k ≤ ks.length := by omega
        have hlt' : (k : Int) < (ks.length : Int) := by omega
        have HT := Lib.hid (show Strs w lo' (.slice (some ⟨g, off, none⟩) k kc) (ks.take k) from by
          have := rows_take HK.out (m := k) (by simp) (by omega)
          rw [← List.map_take] at this
          exact this)
        clear hcell hs
        go_upto_region 6 with fail
        obtain ⟨W, hW⟩ : ∃ W, W = wr.alloc (.cells #[.string s] 9) := ⟨_, rfl⟩
        have hbW : Below w.heap.size w W := by rw [hW]; exact below_step hb (below_alloc wr _)
        have hx : W.heap[wr.heap.size]? = some (.cells #[.string s] 9 (0, 0)) := by rw [hW]; exact heap_alloc_new wr _
        rw [← hW]
        have x0 := cell_at hx 0 rfl
        have HS8 := Lib.hid (show ∀ w', Below W.heap.size W w' → (Below W.heap.size W w' ∧ w'.cell? ⟨wr.heap.size, 0, none⟩ = some (.string s)) from fun w' hb => ⟨hb, below_cell hb x0⟩)
        generalize hX : wr.heap.size = X at HS8 hx x0 ⊢
        clear hW hX q0 hx hb
        go_wp2_with fail
        refine (scorerAt_calls lo _ cs s W (NRows.below HC.out hbW)).mono ?_
        rintro e w1 hat
        have hb1 := hat.2
        obtain ⟨kv, rfl, hkv⟩ := at_of Hsort.out hat
        clear hat x0
        rcases hkv with ⟨rfl, hkn⟩ | ⟨q, rfl, _, hkn⟩
        · rw [hkn] at Hv
          clear hkn
          go_wp2_with fail
          go_ret
          exact ⟨ret_int (by rw [Hhit.out (by rw [Hv.out]; simp [firstE, unlessE]), Hv.out]; simp [firstE, unlessE]), below_step hbW hb1⟩
        · rw [hkn] at Hv
          clear hkn
          go_upto_region 8 with fail
          have hb0 := hb1.drew
          show Code.wp _ (Code.region 8 ops_42_8 true) _ _ _
          refine region_start 6 (fun w' => Below W.heap.size W w' ∧ w'.cell? ⟨X, 0, none⟩ = some (.string s)) (by kernel_rfl) rfl ?_ (fun hHeld => ?_)
          · (exact HS8.out _ (by first | assumption | exact hHeld.1 | exact below_step hHeld.1 (by assumption) | exact below_step hHeld.1 (below_alloc _ _)))
          refine take_to 0 25 #[true, false, false, false, false, false] (v := ?_) ops_42_8_0 rfl ops_42_8_ns (by kernel_rfl) (by kernel_rfl) (fun _ _ _ h => h) (by rfl) ?y08 (by assumption) ?_
          case y08 =>
            intro w hSw
            try dsimp only at hSw
            go_simp
            try with_reducible rfl
          simp only [List.set_cons_zero, List.set_cons_succ]
          refine take_to 1 26 #[true, true, false, false, false, false] (v := ?_) ops_42_8_1 rfl ops_42_8_ns (by kernel_rfl) (by kernel_rfl) (fun _ _ _ h => h) (by rfl) ?y18 (by assumption) ?_
          case y18 =>
            intro w hSw
            try dsimp only at hSw
            go_simp
            try with_reducible rfl
          simp only [List.set_cons_zero, List.set_cons_succ]
          refine take_to 2 27 #[true, true, true, false, false, false] (v := ?_) ops_42_8_2 rfl ops_42_8_ns (by kernel_rfl) (by kernel_rfl) (fun _ _ _ h => h) (by rfl) ?y28 (by assumption) ?_
          case y28 =>
            intro w hSw
            try dsimp only at hSw
            go_simp
            try with_reducible rfl
          simp only [List.set_cons_zero, List.set_cons_succ]
          refine take_to 3 28 #[true, true, true, true, false, false] (v := ?_) ops_42_8_3 rfl ops_42_8_ns (by kernel_rfl) (by kernel_rfl) (fun _ _ _ h => h) (by rfl) ?y38 (by assumption) ?_
          case y38 =>
            intro w hSw
            try dsimp only at hSw
            go_simp
            try with_reducible rfl
          simp only [List.set_cons_zero, List.set_cons_succ]
          refine run_to 4 #[true, true, true, true, true, false] ops_42_8_4 (by kernel_rfl) (by kernel_rfl) (by rfl) (fun K hK => ?_)
          go_simp
          refine (contains_calls lo' _ (ks.take k) s _ (HT.out.below (hbW.trans (hHeld.1.mono hbW.size)))).mono ?_
          rintro e w' ⟨rfl, rfl⟩
          go_wp2_with fail
          refine hK.out _ _ ?_ (fun hHeld => ?_)
          · (exact HS8.out _ (by first | assumption | exact hHeld.1 | exact below_step hHeld.1 (by assumption) | exact below_step hHeld.1 (below_alloc _ _)))
          clear hK K
          try simp only [Act.put, List.setIfInBounds_toArray, List.set_cons_zero, List.set_cons_succ]
          refine take_to 5 24 #[true, true, true, true, true, true] (v := ?_) ops_42_8_5 rfl ops_42_8_ns (by kernel_rfl) (by kernel_rfl) (fun _ _ _ h => h) (by rfl) ?y58 (by assumption) ?_
          case y58 =>
            intro w hSw
            try dsimp only at hSw
            go_simp
            try with_reducible rfl
          simp only [List.set_cons_zero, List.set_cons_succ]
          refine wpAnyH_done (by kernel_rfl) ?_ _
          have hb8 := hHeld.1
          have x0 := hHeld.2
          clear hHeld
          generalize cnS (ks.take k) s = tb at Hv ⊢
          cases tb
          · have CF := Lib.hid (containsFi_calls 96 #[.pointer (some ⟨X, 0, none⟩)] (fun o => beqS o.who s) lo3 _ fs _ (HF.out.below (below_step hbW hb8)) (by intro args w; go_simp) (fun V o hb => benchFault1_calls o s X V (below_cell hb x0)))
            rw [show fs.any (fun o => beqS o.who s) = inF fs s from rfl] at CF
            generalize inF fs s = fb at CF Hv
            go_wp2_with fail
            refine CF.out.mono ?_
            rintro e w9 ⟨rfl, hb9⟩
            clear CF
            cases fb
            · go_wp2_with fail
              go_roundw
              case rel => exact ⟨k + 1, by omega, by go_num, Lib.hid (Hnext.out (by rw [Hv.out]; simp [firstE, unlessE])), below_step (below_step hbW hb8) hb9⟩
              case measure => simp [intOf]; omega
            · go_wp2_with fail
              go_ret
              exact ⟨ret_int (by rw [Hhit.out (by rw [Hv.out]; simp [firstE, unlessE]), Hv.out]; simp [firstE, unlessE]), below_step (below_step hbW hb8) hb9⟩
          · go_wp2_with fail
            go_ret
            exact ⟨ret_int (by rw [Hhit.out (by rw [Hv.out]; simp [firstE, unlessE]), Hv.out]; simp [firstE, unlessE]), below_step hbW hb8⟩
      · obtain rfl : k = ks.length := by omega
        have Hnone := Lib.hid (show eachE ks.length 20 (wnF cs fs ks) = 0 from eachE_none Hm.out H0.out)
        go_wp2_with fail
        go_ret
        exact ⟨ret_int Hnone.out.symm, hb⟩
  · have HE := Lib.hid (show eachE ks.length 20 (wnF cs fs ks) = 2 by unfold eachE; rw [if_pos (by omega)])
    have hgt : (20 : Int) < (ks.length : Int) := by omega
    rw [HE.out]
    clear hm
    go_enter Tryz.func42, Tryz.ntmps42
    go_wp2_with fail
    go_ret
    exact ⟨rfl, Below.refl _ _⟩
end Go.Proofs.YthlfjfmlmcoihaaGreat
namespace Go.Proofs.YthlfjfmlmcoihaaGreat
open Go.RowKit

theorem info_fi : (Tryz.prog.info? 49).map (fun i => (i.zero, i.size, i.bytes)) = some (some (.agg #[.string ⟨#[]⟩, .string ⟨#[]⟩]), 2, 32) := by kernel_rfl
/-- Fills that the call owns. -/
def OwnFi (w : World) (base : Nat) (v : Value) (fs : List FiD) : Prop := w.ownsRow base 49 2 v fs.length (fs.map fiRow).flatten
set_option maxRecDepth 100000 in
set_option maxHeartbeats 1000000 in
theorem cloneFi_calls (lo : Nat) (v : Value) (fs : List FiD) (w : World) (hv : Fis w lo v fs) :
    Calls Tryz.prog 93 #[v] w fun e w' => ∃ v', OwnFi w' w.heap.size v' fs ∧ e = .returned v' ∧ Below w.heap.size w w' := by
  obtain ⟨i0, hi, hz0, hz1, hz2⟩ := info_parts info_fi
  have hnil := fun a n c => Lib.run_eql_slice_nil (P := Tryz.prog) w 30 49 a n c 0 0 Tryz.underlying30
  rcases hv.shape with ⟨rfl, h0⟩ | ⟨g, off, cap, cur, fr, rfl, hlc, hg, hc⟩
  · obtain rfl : fs = [] := by simpa using h0
    clear hv hi hz0 hz1 hz2
    go_enter Tryz.func93, Tryz.ntmps93
    go_wp2_with fail
    go_ret
    exact ⟨_, World.ownsRow_nil _ _ _ _, rfl, Below.refl _ _⟩
  · clear hlc
    have hn := hv.small
    simp only [List.length_map] at hn
    have hgl := lt_of_heap hg
    have hfl : ((fs.map fiRow).flatten).length = fs.length * 2 := by
      clear hc hn hg hv
      induction fs with
      | nil => rfl
      | cons f fs ih => simp [fiRow, ih]; omega
    have hflat : ∀ j u, (fs.map fiRow).flatten[j]? = some u → cur[off + j]? = some u := by
      intro j u hu
      have hj : j < fs.length * 2 := by rw [← hfl]; exact (List.getElem?_eq_some_iff.1 hu).1
      have hq : j / 2 < fs.length := by omega
      obtain ⟨f, hf⟩ : ∃ f, fs[j / 2]? = some f := ⟨_, List.getElem?_eq_getElem hq⟩
      have h1 : ((fs.map fiRow)[j / 2]?.getD [])[j % 2]? = (fiRow f)[j % 2]? := by simp [hf]
      obtain ⟨u', hu'⟩ : ∃ u', (fiRow f)[j % 2]? = some u' := ⟨_, List.getElem?_eq_getElem (show j % 2 < (fiRow f).length by simp [fiRow]; omega)⟩
      have h2 := flat_at (sz := 2) (fs.map fiRow) (by simp [fiRow]) (j / 2) (j % 2) u' (by rw [h1]; exact hu')
      rw [show j / 2 * 2 + j % 2 = j by omega, hu] at h2
      cases h2
      have h3 := hc (j / 2) (j % 2) u (by rw [h1]; exact hu')
      rwa [show off + j / 2 * 2 + j % 2 = off + j by omega] at h3
    have hown : OwnFi (w.alloc (.cells #[] 49)) w.heap.size (.slice (some ⟨w.heap.size, 0, none⟩) 0 0) [] := World.ownsRow_made w #[] 0 (Nat.le_refl _) (by unfold maxLen; omega) rfl
    have hnews : ∀ j u, (fs.map fiRow).flatten[j]? = some u → (w.alloc (.cells #[] 49)).cell? ((⟨g, off, none⟩ : Addr).add j) = some u := by
      intro j u hu
      have hadd : (⟨g, off, none⟩ : Addr).add j = ⟨g, off + j, none⟩ := by unfold Addr.add; split <;> simp_all
      rw [hadd, World.cell?_alloc_past _ _ _ hgl, cell_of_row w g _ cur _ fr hg]
      exact hflat j u hu
    have Hn := Lib.hid hnews
    have Hl := Lib.hid hfl
    clear hnews hc hflat hfl hg hv
    simp only [List.length_map]
    go_enter Tryz.func93, Tryz.ntmps93
    go_wp2_with (at_builtin; refine wpList_append_own _ rfl _ _ 30 rfl w.heap.size 49 i0 (.agg #[.string ⟨#[]⟩, .string ⟨#[]⟩]) 2 32 Tryz.underlying30 hi hz0 hz1 hz2 rfl (by decide) _ 0 [] rfl hown ⟨g, off, none⟩ fs.length cap ((fs.map fiRow).flatten) rfl Hl.out Hn.out ?c2 ?c3 ?c4 ?c5 ?_)
    case c2 =>
      intro u hu
      obtain ⟨r, hr, hur⟩ := List.mem_flatten.1 hu
      obtain ⟨f, _, rfl⟩ := List.mem_map.1 hr
      simp only [fiRow, List.mem_cons, List.not_mem_nil, or_false] at hur
      rcases hur with rfl | rfl <;> rfl
    case c3 => unfold maxLen; omega
    case c4 => omega
    case c5 => simp
    intro v' w4 hown4 hgrow _
    go_wp2_with fail
    go_ret
    refine ⟨_, ?_, rfl, (below_alloc w _).grown hgrow (by simp) fun r hr => (own_block hown r hr).1⟩
    unfold OwnFi
    simpa using hown4

end Go.Proofs.YthlfjfmlmcoihaaGreat
