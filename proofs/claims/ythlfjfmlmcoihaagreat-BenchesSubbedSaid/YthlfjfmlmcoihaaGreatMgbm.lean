/- BenchesSubbed: the law's walk. -/
import Derived.Test.YthlfjfmlmcoihaaGreatMgbd
import Derived.Test.YthlfjfmlmcoihaaGreatMgbi
import Derived.Test.YthlfjfmlmcoihaaGreatMgap
import Derived.Test.YthlfjfmlmcoihaaGreatMgbe
import Derived.Test.YthlfjfmlmcoihaaGreatMgbj
import Derived.Test.YthlfjfmlmcoihaaGreatMgay
import Derived.Test.YthlfjfmlmcoihaaGreatMgbk
import Derived.Test.YthlfjfmlmcoihaaGreatMgbl
import Derived.Test.YthlfjfmlmcoihaaGreatMgaf
import Derived.Test.YthlfjfmlmcoihaaGreatMgax
import Derived.Deep.CutRange
namespace Go.Proofs.YthlfjfmlmcoihaaGreat
open Go.RowKit

theorem sc_sorted {cs : List ScD} (h : chkSc cs = 0) : SortedK (cs.map ScD.who) := by
  refine sorted_step fun i hi => ?_
  rw [List.length_map] at hi
  have h1 := each_zero h (i + 1) hi
  unfold scF at h1
  rw [scAt_some (List.getElem?_eq_getElem hi)] at h1
  have e1 : keyAt (cs.map ScD.who) i = (cs[i]).who := keyAt_who (List.getElem?_eq_getElem (by omega))
  have e2 : keyAt (cs.map ScD.who) (i + 1) = (cs[i + 1]).who := keyAt_who (List.getElem?_eq_getElem hi)
  rw [e1, e2]
  have e3 : (scAt cs (i + 1 - 1)).who = (cs[i]).who := by rw [Nat.add_sub_cancel, scAt_some (List.getElem?_eq_getElem (by omega))]
  rw [e3] at h1
  cases hl : ltS (cs[i]).who (cs[i + 1]).who
  · exfalso
    rw [hl] at h1
    cases hk : keyB (cs[i + 1]).who <;> simp [firstE, unlessE, hk] at h1
  · rfl
/-- The law's own error. -/
def ftE (ss : List SlD) (cs : List ScD) (fs : List FiD) (ks : List ByteArray) : Int := if sdE ss cs = 0 then firstE [fiE ss cs fs, wnE cs fs ks] else sdE ss cs
theorem first_ne {a b : Int} (h : a ≠ 0) : firstE [a, b] = a := by simp [firstE, h]
theorem ft_eq (ss : List SlD) (cs : List ScD) (fs : List FiD) (ks : List ByteArray) : sbE ss cs fs ks = ftE ss cs fs ks := by
  unfold sbE ftE
  by_cases h : sdE ss cs = 0
  · rw [if_pos h, fiE_eq h]
  · rw [if_neg h]
    have e : ch0 ss cs fs = sdE ss cs := by unfold ch0; exact first_ne h
    have e2 : chkFi ss cs fs = sdE ss cs := by unfold chkFi; rw [e, if_neg h]
    rw [e2]; exact first_ne h
theorem bs11_calls (f : FiD) (k : ByteArray) (X : Nat) (w : World) (hX : w.cell? ⟨X, 0, none⟩ = some (.string k)) :
    Calls Tryz.prog 40 #[.agg #[.string f.slot, .string f.who], .pointer (some ⟨X, 0, none⟩)] w (BoolIs (beqS f.who k) w) := by
  go_enter Tryz.func40, Tryz.ntmps40
  have hX1 := below_cell (below_alloc w (.cells #[.string f.slot, .string f.who] 49)) hX
  go_wp2_with fail
  go_ret
  exact ⟨ret_bool (by unfold beqS; rfl), below_alloc w _⟩
set_option maxHeartbeats 1000000 in
theorem bs1_calls (lo X : Nat) (u : Value) (fs : List FiD) (k : ByteArray) (w : World) (hX : w.cell? ⟨X, 0, none⟩ = some u) (hF : Fis w lo u fs) :
    Calls Tryz.prog 39 #[.string k, .pointer (some ⟨X, 0, none⟩)] w (BoolIs (inF fs k) w) := by
  have hb0 := below_alloc w (.cells #[.string k] 9)
  have x0 : (w.alloc (.cells #[.string k] 9)).cell? ⟨w.heap.size, 0, none⟩ = some (.string k) := by rw [World.cell?_alloc_at _ _ _ _ rfl]; rfl
  have C := Lib.hid (containsFi_calls 40 #[.pointer (some ⟨w.heap.size, 0, none⟩)] (fun f => beqS f.who k) lo u fs _ (hF.below hb0) (by intro args w; go_simp) (fun W f hb => bs11_calls f k w.heap.size W (below_cell hb x0)))
  rw [show (fs.any fun f => beqS f.who k) = inF fs k from rfl] at C
  have hX1 := below_cell hb0 hX
  obtain ⟨a, c, rfl⟩ := fis_shape hF
  clear hF x0
  go_enter Tryz.func39, Tryz.ntmps39
  go_wp2_with fail
  refine C.out.mono ?_
  rintro e w1 ⟨rfl, hb⟩
  go_wp2_with fail
  go_ret
  exact ⟨rfl, below_step hb0 hb⟩
/-- A bench as it is handed on. -/
def BenchV (lo : Nat) (wc : World) (v : Value) : Prop := ∃ ks : List ByteArray, Strs wc lo v ks ∧ ks.length ≤ 7
def ops_5_9 : Array Go.Oper := #[
  { dst := some 65, op := Go.Op.move (Go.Operand.tmp 4), type := 26, pos := "scores.go:133", after := #[], guard := none },
  { dst := some 66, op := Go.Op.move (Go.Operand.tmp 5), type := 28, pos := "scores.go:133", after := #[], guard := none },
  { dst := some 67, op := Go.Op.load 30 (Go.Operand.tmp 6), type := 30, pos := "scores.go:133", after := #[], guard := none },
  { dst := some 68, op := Go.Op.call { callee := Go.Callee.value (Go.Operand.func 16), args := #[Go.Operand.tmp 65, Go.Operand.tmp 66, Go.Operand.tmp 67], argTypes := #[26, 28, 30] }, type := 35, pos := "scores.go:133", after := #[{ on := 0, ground := Go.Ground.data }, { on := 1, ground := Go.Ground.data }, { on := 2, ground := Go.Ground.data }], guard := none },
  { dst := some 69, op := Go.Op.move (Go.Operand.tmp 5), type := 28, pos := "scores.go:133", after := #[], guard := none },
  { dst := some 70, op := Go.Op.load 30 (Go.Operand.tmp 6), type := 30, pos := "scores.go:133", after := #[], guard := none },
  { dst := some 71, op := Go.Op.move (Go.Operand.tmp 7), type := 39, pos := "scores.go:133", after := #[], guard := none },
  { dst := some 72, op := Go.Op.call { callee := Go.Callee.value (Go.Operand.func 42), args := #[Go.Operand.tmp 69, Go.Operand.tmp 70, Go.Operand.tmp 71], argTypes := #[28, 30, 39] }, type := 35, pos := "scores.go:133", after := #[{ on := 4, ground := Go.Ground.data }, { on := 5, ground := Go.Ground.data }, { on := 6, ground := Go.Ground.data }, { on := 3, ground := Go.Ground.chain }], guard := none },
  { dst := some 73, op := Go.Op.buildSlice 95 2 #[(0, Go.Operand.tmp 68), (1, Go.Operand.tmp 72)], type := 95, pos := "scores.go:133", after := #[{ on := 3, ground := Go.Ground.data }, { on := 7, ground := Go.Ground.data }], guard := none },
  { dst := some 74, op := Go.Op.call { callee := Go.Callee.value (Go.Operand.func 13), args := #[Go.Operand.tmp 73], argTypes := #[95] }, type := 35, pos := "scores.go:133", after := #[{ on := 8, ground := Go.Ground.data }, { on := 7, ground := Go.Ground.chain }], guard := none },
  { dst := some 10, op := Go.Op.assign (Go.Operand.tmp 74), type := 35, pos := "scores.go:133", after := #[{ on := 9, ground := Go.Ground.data }, { on := 9, ground := Go.Ground.chain }, { on := 0, ground := Go.Ground.phase }, { on := 1, ground := Go.Ground.phase }, { on := 2, ground := Go.Ground.phase }, { on := 3, ground := Go.Ground.phase }, { on := 4, ground := Go.Ground.phase }, { on := 5, ground := Go.Ground.phase }, { on := 6, ground := Go.Ground.phase }, { on := 7, ground := Go.Ground.phase }, { on := 8, ground := Go.Ground.phase }, { on := 9, ground := Go.Ground.phase }], guard := none }]
theorem ops_5_9_0 : ops_5_9[0]? = some ({ dst := some 65, op := Go.Op.move (Go.Operand.tmp 4), type := 26, pos := "scores.go:133", after := #[], guard := none } : Go.Oper) := rfl
theorem ops_5_9_1 : ops_5_9[1]? = some ({ dst := some 66, op := Go.Op.move (Go.Operand.tmp 5), type := 28, pos := "scores.go:133", after := #[], guard := none } : Go.Oper) := rfl
theorem ops_5_9_2 : ops_5_9[2]? = some ({ dst := some 67, op := Go.Op.load 30 (Go.Operand.tmp 6), type := 30, pos := "scores.go:133", after := #[], guard := none } : Go.Oper) := rfl
theorem ops_5_9_3 : ops_5_9[3]? = some ({ dst := some 68, op := Go.Op.call { callee := Go.Callee.value (Go.Operand.func 16), args := #[Go.Operand.tmp 65, Go.Operand.tmp 66, Go.Operand.tmp 67], argTypes := #[26, 28, 30] }, type := 35, pos := "scores.go:133", after := #[{ on := 0, ground := Go.Ground.data }, { on := 1, ground := Go.Ground.data }, { on := 2, ground := Go.Ground.data }], guard := none } : Go.Oper) := rfl
theorem ops_5_9_4 : ops_5_9[4]? = some ({ dst := some 69, op := Go.Op.move (Go.Operand.tmp 5), type := 28, pos := "scores.go:133", after := #[], guard := none } : Go.Oper) := rfl
theorem ops_5_9_5 : ops_5_9[5]? = some ({ dst := some 70, op := Go.Op.load 30 (Go.Operand.tmp 6), type := 30, pos := "scores.go:133", after := #[], guard := none } : Go.Oper) := rfl
theorem ops_5_9_6 : ops_5_9[6]? = some ({ dst := some 71, op := Go.Op.move (Go.Operand.tmp 7), type := 39, pos := "scores.go:133", after := #[], guard := none } : Go.Oper) := rfl
theorem ops_5_9_7 : ops_5_9[7]? = some ({ dst := some 72, op := Go.Op.call { callee := Go.Callee.value (Go.Operand.func 42), args := #[Go.Operand.tmp 69, Go.Operand.tmp 70, Go.Operand.tmp 71], argTypes := #[28, 30, 39] }, type := 35, pos := "scores.go:133", after := #[{ on := 4, ground := Go.Ground.data }, { on := 5, ground := Go.Ground.data }, { on := 6, ground := Go.Ground.data }, { on := 3, ground := Go.Ground.chain }], guard := none } : Go.Oper) := rfl
theorem ops_5_9_8 : ops_5_9[8]? = some ({ dst := some 73, op := Go.Op.buildSlice 95 2 #[(0, Go.Operand.tmp 68), (1, Go.Operand.tmp 72)], type := 95, pos := "scores.go:133", after := #[{ on := 3, ground := Go.Ground.data }, { on := 7, ground := Go.Ground.data }], guard := none } : Go.Oper) := rfl
theorem ops_5_9_9 : ops_5_9[9]? = some ({ dst := some 74, op := Go.Op.call { callee := Go.Callee.value (Go.Operand.func 13), args := #[Go.Operand.tmp 73], argTypes := #[95] }, type := 35, pos := "scores.go:133", after := #[{ on := 8, ground := Go.Ground.data }, { on := 7, ground := Go.Ground.chain }], guard := none } : Go.Oper) := rfl
theorem ops_5_9_10 : ops_5_9[10]? = some ({ dst := some 10, op := Go.Op.assign (Go.Operand.tmp 74), type := 35, pos := "scores.go:133", after := #[{ on := 9, ground := Go.Ground.data }, { on := 9, ground := Go.Ground.chain }, { on := 0, ground := Go.Ground.phase }, { on := 1, ground := Go.Ground.phase }, { on := 2, ground := Go.Ground.phase }, { on := 3, ground := Go.Ground.phase }, { on := 4, ground := Go.Ground.phase }, { on := 5, ground := Go.Ground.phase }, { on := 6, ground := Go.Ground.phase }, { on := 7, ground := Go.Ground.phase }, { on := 8, ground := Go.Ground.phase }, { on := 9, ground := Go.Ground.phase }], guard := none } : Go.Oper) := rfl
theorem ops_5_9_ns : Go.Region.noSelect ops_5_9 = true := by kernel_rfl
set_option maxRecDepth 100000 in
set_option maxHeartbeats 16000000 in
theorem benches_law (lv : Value) (w : World) (hl : Tape w lv) : Calls Tryz.prog 5 #[lv] w (BoolIs true w) := by
  have hs1 := hl.stm 25
  obtain ⟨la, ln, lc, rfl⟩ := hl.shape
  clear hl
  go_enter Tryz.func5, Tryz.ntmps5
  go_wp2_with fail
  refine (slots_calls w.heap.size 0 _ hs1 (by omega)).mono ?_
  rintro e w1 ⟨vs, ⟨ss, hS, hsn, hsm⟩, rfl, hs1', hg1⟩
  have hb1 : Below w.heap.size w w1 := (below_alloc w _).grown hg1 (by simp) (fun r hr => by cases hr; exact Nat.le_refl _)
  have hlo1 : w.heap.size < (w.alloc (.cells #[.slice la ln lc, .int .i64 0] 25)).heap.size := by simp
  have hlo2 : w.heap.size < w1.heap.size := hs1'.lt
  generalize (w.alloc (.cells #[.slice la ln lc, .int .i64 0] 25)).heap.size = lo1 at hS hlo1
  have Hsm := Lib.hid hsm
  obtain ⟨sa, sc, rfl⟩ := NRows.shape hS
  clear hs1 hg1 hsm
  go_wp2_with fail
  refine (scorers_calls w.heap.size _ w1 hs1' (by omega)).mono ?_
  rintro e w2 ⟨vc, ⟨cs, hC, hcn, hcm⟩, rfl, hs2, hg2⟩
  have hz2 := hg2.size
  have hb2 := hb1.grown hg2 hb1.size (fun r hr => by cases hr; exact Nat.le_refl _)
  replace hS := NRows.other hS hg2 hlo1
  have Hcm := Lib.hid hcm
  obtain ⟨ca, cc, rfl⟩ := NRows.shape hC
  clear hs1' hg2 hcm hb1
  go_wp2_with fail
  refine (fills_calls w.heap.size _ lo1 w1.heap.size _ _ ss cs w2 hs2 (by omega) hS hlo1 hsn Hsm.out hC hlo2 hcn Hcm.out).mono ?_
  rintro e w3 ⟨vf, ⟨fs, hF, hfn, hfm⟩, rfl, hs3, hg3⟩
  have hz3 := hg3.size
  have hb3 := hb2.grown hg3 hb2.size (fun r hr => by cases hr; exact Nat.le_refl _)
  have hlo3 : w.heap.size < w2.heap.size := hs2.lt
  have hlo4 : w.heap.size < w3.heap.size := hs3.lt
  replace hS := NRows.other hS hg3 hlo1
  replace hC := NRows.other hC hg3 hlo2
  obtain ⟨fa, fc, rfl⟩ := fis_shape hF
  clear hs2 hg3 hfm hb2
  go_wp2_with fail
  refine (someOf_calls w.heap.size _ w1.heap.size _ cs w3 hs3 (by omega) hC hlo2 (by omega) Hcm.out).mono ?_
  rintro e w4 ⟨vb, ⟨ks, hown, hkl, hks⟩, rfl, hs4, hg4⟩
  obtain ⟨ka, kc, rfl⟩ := owns_shape hown
  have hkn : ks.length ≤ 7 := by omega
  have hlo5 : w.heap.size < w4.heap.size := hs4.lt
  have hz34 := hg4.size
  have hz12 := hz2
  have hz23 := hz3
  clear hks hs3 hkl
  have HS := Lib.hid hS
  have HC := Lib.hid hC
  have HF := Lib.hid hF
  have HB3 := Lib.hid hb3
  have Hown := Lib.hid hown
  clear hS hC hF hb3 hown
  go_upto_region 4 with fail
  obtain ⟨W6, hW6⟩ : ∃ W6, W6 = w4.alloc (.cells #[.slice fa fs.length fc] 30) := ⟨_, rfl⟩
  have hb6 : Below w4.heap.size w4 W6 := by rw [hW6]; exact below_alloc w4 _
  have hx6 : W6.heap[w4.heap.size]? = some (.cells #[.slice fa fs.length fc] 30 (0, 0)) := by rw [hW6]; exact heap_alloc_new w4 _
  rw [← hW6]
  have Hown6 := Lib.hid (own_below Hown.out hb6)
  have Hg36 := Lib.hid (gb_trans hg4 (gb_below hb6 (some w.heap.size)))
  have hs6 := hs4.below hb6
  have x6 := cell_at hx6 0 rfl
  have Hx6 := Lib.hid hx6
  have Hob := Lib.hid (show ∀ r, (Value.slice ka ks.length kc).ownBlock = some r → r < w4.heap.size from fun r e => by obtain ⟨_, cur, h⟩ := own_block Hown.out r e; exact lt_of_heap h)
  have Hz46 := Lib.hid (show w4.heap.size < W6.heap.size from lt_of_heap hx6)
  generalize hX6 : w4.heap.size = X6 at x6 Hx6 hlo5 Hz46 hz34 Hob ⊢
  clear hW6 hb6 hx6 hX6 hg4 hs4
  go_cut [45] from 12 to 92 (fun v wc => (∃ q : Bool, v = .bool q) ∧ W6.grownBy wc (some w.heap.size))
  case first =>
    have CA := Lib.hid (slotsFault_calls lo1 _ ss W6 (NRows.other HS.out Hg36.out hlo1) Hsm.out)
    have CC := Lib.hid (fun w' (hb : Below W6.heap.size W6 w') => scorersFault_calls w1.heap.size _ cs w' (NRows.below (NRows.other HC.out Hg36.out hlo2) hb) Hcm.out (by omega))
    have CF := Lib.hid (fun (h : chkSc cs = 0) w' (hb : Below W6.heap.size W6 w') => fillsFault_calls w1.heap.size lo1 w2.heap.size _ _ _ ss cs fs w' (NRows.below (NRows.other HS.out Hg36.out hlo1) hb) (NRows.below (NRows.other HC.out Hg36.out hlo2) hb) (sc_sorted h) (by omega) ((HF.out.other Hg36.out hlo3).below hb) (by omega))
    generalize chkSl ss = A at CA
    generalize chkSc cs = Cc at CC CF
    generalize fiE ss cs fs = Ff at CF
    by_cases hA : A = 0
    · subst hA
      go_wp2_with fail
      refine CA.out.mono ?_
      rintro e w7 ⟨rfl, hb7⟩
      by_cases hCc : Cc = 0
      · subst hCc
        go_wp2_with fail
        refine (CC.out w7 hb7).mono ?_
        rintro e w8 ⟨rfl, hb8⟩
        have hb8 := below_step hb7 hb8
        have x8 := below_cell hb8 x6
        by_cases hFf : Ff = 0
        · subst hFf
          go_wp2_with fail
          refine (CF.out (by first | rfl | trivial) w8 hb8).mono ?_
          rintro e w9 ⟨rfl, hb9⟩
          have hb9 := below_step hb8 hb9
          go_wp2_with fail
          refine (flip_calls w.heap.size _ 6 w9 (hs6.below hb9) (by omega) (by omega) (by omega)).mono ?_
          rintro e w10 ⟨v, ⟨fb, rfl⟩, rfl, hs10, hg10⟩
          have hg610 := gb_trans (gb_below hb9 (some w.heap.size)) hg10
          cases fb
          · go_wp2_with fail
            go_meet
            case rel => exact ⟨⟨_, rfl⟩, hg610⟩
          · go_wp2_with fail
            go_meet
            case rel => exact ⟨⟨_, rfl⟩, hg610⟩
        · have hne : (Ff == 0) = false := by rw [beq_eq_false_iff_ne]; exact hFf
          clear hFf
          go_wp2_with fail
          refine (CF.out (by first | rfl | trivial) w8 hb8).mono ?_
          rintro e w9 ⟨rfl, hb9⟩
          clear x8
          go_wp2_with fail
          go_meet
          case rel => exact ⟨⟨_, rfl⟩, gb_below (below_step hb8 hb9) _⟩
      · have hne : (Cc == 0) = false := by rw [beq_eq_false_iff_ne]; exact hCc
        clear hCc
        go_wp2_with fail
        refine (CC.out w7 hb7).mono ?_
        rintro e w8 ⟨rfl, hb8⟩
        go_wp2_with fail
        go_meet
        case rel => exact ⟨⟨_, rfl⟩, gb_below (below_step hb7 hb8) _⟩
    · have hne : (A == 0) = false := by rw [beq_eq_false_iff_ne]; exact hA
      clear hA
      go_wp2_with fail
      refine CA.out.mono ?_
      rintro e w7 ⟨rfl, hb7⟩
      go_wp2_with fail
      go_meet
      case rel => exact ⟨⟨_, rfl⟩, gb_below hb7 _⟩
  case rest =>
    obtain ⟨⟨q, rfl⟩, hg6⟩ := hcut
    go_upto_if 45 with fail
    go_cut [7] from 12 to 92 (fun v wd => BenchV w3.heap.size wd v ∧ w3.grownBy wd (some w.heap.size) ∧ wd.cell? ⟨X6, 0, none⟩ = some (.slice fa fs.length fc))
    case first =>
      have hown10 := Hown6.out.kept hg6 (.inr fun e => by have := (own_block Hown6.out _ e).1; omega)
      have hgw3 := gb_trans Hg36.out hg6
      have x10 := gb_cell hg6 x6 (by omega)
      cases q
      · have HK := Lib.hid (strs_of_owns hown10 (show ks.length ≤ 1000000 by omega))
        clear hown10
        go_wp2_with fail
        go_meet
        case rel => exact ⟨⟨ks, HK.out, hkn⟩, hgw3, x10⟩
      · rcases hown10.2 with ⟨hnil, h0⟩ | ⟨g, cap, cur, hsl, hgb, hgc, hle, _⟩
        · have CD := Lib.hid (deleteS0_calls 39 #[.pointer (some ⟨X6, 0, none⟩)] wc (by intro args w; go_simp))
          rw [← hnil] at CD
          have HK := Lib.hid (strs_of_owns hown10 (show ks.length ≤ 1000000 by omega))
          clear hnil hown10 h0
          go_wp2_with fail
          refine CD.out.mono ?_
          rintro e w11 ⟨rfl, hb11⟩
          go_wp2_with fail
          go_meet
          case rel => exact ⟨⟨ks, HK.out.below hb11, hkn⟩, gb_trans hgw3 (gb_below hb11 _), below_cell hb11 x10⟩
        · obtain ⟨hat, _⟩ := RowsAt.of_owns (sz := 1) (rows := ks.map sRow) (by
            have e : (ks.map sRow).flatten = ks.map Value.string := flatten_single Value.string ks
            rw [e, List.length_map, ← hsl]; exact hown10) (by simp [sRow])
          have hg4 : g < X6 := Hob.out g (by rw [hsl]; rfl)
          have CD := Lib.hid (deleteS_calls 39 #[.pointer (some ⟨X6, 0, none⟩)] (inF fs) w3.heap.size g 0 cap ks wc hat (by omega) hle hgb (by intro args w; go_simp) (fun W k _ hg => bs1_calls w2.heap.size X6 _ fs k W (gb_cell hg x10 (by omega)) (HF.out.other (gb_then hgw3 hg fun r hr => by cases hr; exact hgb) hlo3)))
          rw [← hsl] at CD
          clear hat hown10 hgc hsl
          go_wp2_with fail
          refine CD.out.mono ?_
          rintro e w11 ⟨v', rfl, hv', hg11⟩
          have hgf := gb_then hgw3 hg11 fun r hr => by cases hr; exact hgb
          have xf := gb_cell hg11 x10 (by omega)
          obtain ⟨va, vc, hvs⟩ := strs_shape hv'
          subst hvs
          clear x10
          go_wp2_with fail
          go_meet
          case rel => exact ⟨⟨_, hv', Nat.le_trans (List.length_filter_le _ _) hkn⟩, hgf, xf⟩
    case rest =>
      obtain ⟨⟨ls, hL, hln⟩, hgd, xd⟩ := hcut
      obtain ⟨va, vc, rfl⟩ := strs_shape hL
      have HF' := Lib.hid (show ∀ w', Below wc.heap.size wc w' → Sls w' lo1 (.slice sa ss.length sc) ss ∧ Scs w' w1.heap.size (.slice ca cs.length cc) cs ∧ Fis w' w2.heap.size (.slice fa fs.length fc) fs ∧ Strs w' w3.heap.size (.slice va ls.length vc) ls from fun w' hb => ⟨NRows.below (NRows.other HS.out hgd hlo1) hb, NRows.below (NRows.other HC.out hgd hlo2) hb, (HF.out.other hgd hlo3).below hb, hL.below hb⟩)
      have hbd : Below w.heap.size w wc := HB3.out.grown hgd HB3.out.size (fun r hr => by cases hr; exact Nat.le_refl _)
      have HBd := Lib.hid hbd
      have hloC : w1.heap.size ≤ wc.heap.size := by have := hgd.size; omega
      have hb0 := Below.refl wc.heap.size wc
      have hss : ss.length ≤ 1000000 := by omega
      have hcs : cs.length ≤ 1000000 := by omega
      have hfs : fs.length ≤ 1000000 := by omega
      have hls : ls.length ≤ 1000000 := by omega
      have C1 := Lib.hid (subbed_calls w1.heap.size lo1 w2.heap.size w3.heap.size _ _ _ _ ss cs fs ls wc (HF'.out wc hb0).1 Hsm.out hss (HF'.out wc hb0).2.1 Hcm.out hcs hloC (HF'.out wc hb0).2.2.1 hfs (HF'.out wc hb0).2.2.2 hls)
      have C2 := Lib.hid (fun w' hb => slotsFault_calls lo1 _ ss w' (HF'.out w' hb).1 Hsm.out)
      have C3 := Lib.hid (fun w' hb => scorersFault_calls w1.heap.size _ cs w' (HF'.out w' hb).2.1 Hcm.out hcs)
      have C4 := Lib.hid (fun (h : chkSc cs = 0) w' hb => fillsFault_calls w1.heap.size lo1 w2.heap.size _ _ _ ss cs fs w' (HF'.out w' hb).1 (HF'.out w' hb).2.1 (sc_sorted h) hcs (HF'.out w' hb).2.2.1 hfs)
      have C5 := Lib.hid (fun (h : chkSc cs = 0) w' hb => benchFault_calls w1.heap.size w3.heap.size w2.heap.size _ _ _ cs fs ls w' (HF'.out w' hb).2.1 (sc_sorted h) hcs (HF'.out w' hb).2.2.1 hfs (HF'.out w' hb).2.2.2 hls)
      have C6 := Lib.hid (fun (h : ftE ss cs fs ls = 0) w' hb => (show Calls Tryz.prog 43 #[.slice sa ss.length sc, .slice ca cs.length cc, .slice fa fs.length fc, .slice va ls.length vc] w' (fun e w'' => ∃ v', e = .returned v' ∧ Fis w'' w'.heap.size v' (sbTo cs ls ss fs ss.length) ∧ Below w'.heap.size w' w'') from by
        have h1 := first2_zero (show firstE [chkFi ss cs fs, wnE cs fs ls] = 0 from (ft_eq ss cs fs ls).trans h)
        have h2 := chk_len h1.1
        have h3 := (first2_zero (show firstE [chkSl ss, chkSc cs] = 0 from h2.2.2)).2
        exact subbedOf_calls w1.heap.size lo1 w2.heap.size w3.heap.size _ _ _ _ ss cs fs ls w' (HF'.out w' hb).1 (HF'.out w' hb).2.1 (by omega) (sc_sorted h3) (HF'.out w' hb).2.2.1 hfs h2.1 (by omega) (HF'.out w' hb).2.2.2 hls (wn_known h1.2)))
      have HE0 := Lib.hid (show firstE [chkSl ss, chkSc cs] = sdE ss cs from rfl)
      have HSc := Lib.hid (show sdE ss cs = 0 → chkSc cs = 0 from fun h => (first2_zero h).2)
      have HFt0 := Lib.hid (show sdE ss cs = 0 → ftE ss cs fs ls = firstE [fiE ss cs fs, wnE cs fs ls] from fun h => by unfold ftE; rw [if_pos h])
      have HFt1 := Lib.hid (show sdE ss cs ≠ 0 → ftE ss cs fs ls = sdE ss cs from fun h => by unfold ftE; rw [if_neg h])
      have HEq := Lib.hid (ft_eq ss cs fs ls)
      have HL0 := Lib.hid (show ftE ss cs fs ls = 0 → sbL ss cs fs ls = sbTo cs ls ss fs ss.length from fun h => by unfold sbL; rw [if_pos ((ft_eq ss cs fs ls).trans h)])
      have HL1 := Lib.hid (show ftE ss cs fs ls ≠ 0 → sbL ss cs fs ls = [] from fun h => by unfold sbL; rw [if_neg (fun h' => h ((ft_eq ss cs fs ls).symm.trans h'))])
      have HLn := Lib.hid (show (sbL ss cs fs ls).length ≤ 1000000 from by
        unfold sbL; split
        · rw [sbTo_len]; exact hfs
        · simp)
      have HX := Lib.hid (show ∀ w', Below wc.heap.size wc w' → w'.cell? ⟨X6, 0, none⟩ = some (.slice fa fs.length fc) from fun w' hb => below_cell hb xd)
      clear hL hgd hbd Hown Hown6 Hg36 Hob Hx6 x6 HS HC HF hg6 hs6
      go_wp2_with fail
      refine C1.out.mono ?_
      rintro e w20 ⟨vz, rfl, hz20, hb20⟩
      rw [HEq.out]
      obtain ⟨za, zc, rfl⟩ := fis_shape hz20
      have Hz20 := Lib.hid hz20
      clear C1 hz20 hb0 xd
      go_wp2_with fail
      refine (C2.out w20 hb20).mono ?_
      rintro e w21 ⟨rfl, hb21⟩
      have Hz21 := Lib.hid (Hz20.out.below hb21)
      have hb21 := below_step hb20 hb21
      clear hb20 C2 Hz20
      go_wp2_with fail
      refine (C3.out w21 hb21).mono ?_
      rintro e w22 ⟨rfl, hb22⟩
      have Hz22 := Lib.hid (Hz21.out.below hb22)
      have hb22 := below_step hb21 hb22
      clear hb21 C3 Hz21
      go_wp2_with fail
      refine (errs_calls _ 0 2 [chkSl ss, chkSc cs] _ (by simp) (by exact nums2 _ _ _ _)).mono ?_
      rintro e w23 ⟨rfl, rfl⟩
      rw [HE0.out]
      have Hz23 := Lib.hid (Hz22.out.below (below_alloc w22 (.cells #[.int .i64 (chkSl ss), .int .i64 (chkSc cs)] 35)))
      have hb23 := below_step hb22 (below_alloc w22 (.cells #[.int .i64 (chkSl ss), .int .i64 (chkSc cs)] 35))
      generalize hW24 : w22.alloc (.cells #[.int .i64 (chkSl ss), .int .i64 (chkSc cs)] 35) = W24 at hb23 Hz23 ⊢
      generalize ftE ss cs fs ls = FT at C6 HFt0 HFt1 HL0 HL1 ⊢
      generalize sdE ss cs = SD at HSc HFt0 HFt1 ⊢
      generalize fiE ss cs fs = FI at C4 HFt0
      generalize wnE cs fs ls = WN at C5 HFt0
      clear hW24 hb22 Hz22 HE0 HEq
      go_upto_if 64 with fail
      go_cut [10] from 12 to 92 (fun v we => v = .int .i64 FT ∧ Below W24.heap.size W24 we)
      case first =>
        by_cases hz : SD = 0
        · subst hz
          have hsc := HSc.out rfl
          have C4' := Lib.hid (C4.out hsc)
          have C5' := Lib.hid (C5.out hsc)
          have Hft := Lib.hid (HFt0.out rfl)
          have HS9 := Lib.hid (show ∀ w', Below W24.heap.size W24 w' → (Below W24.heap.size W24 w' ∧ w'.cell? ⟨X6, 0, none⟩ = some (.slice fa fs.length fc)) from fun w' hb => ⟨hb, HX.out w' (below_step hb23 hb)⟩)
          have hb0 := (Below.refl W24.heap.size W24).drew
          clear hsc C4 C5 HFt0 HFt1 HL0 HL1 C6 HSc
          go_upto_region 9 with fail
          show Code.wp _ (Code.region 9 ops_5_9 true) _ _ _
          refine region_start 11 (fun w' => Below W24.heap.size W24 w' ∧ w'.cell? ⟨X6, 0, none⟩ = some (.slice fa fs.length fc)) (by kernel_rfl) rfl ?_ (fun hHeld => ?_)
          · (exact HS9.out _ (by first | assumption | exact hHeld.1 | exact below_step hHeld.1 (by assumption) | exact below_step hHeld.1 (below_alloc _ _)))
          refine take_to 0 65 #[true, false, false, false, false, false, false, false, false, false, false] (v := ?_) ops_5_9_0 rfl ops_5_9_ns (by kernel_rfl) (by kernel_rfl) (fun _ _ _ h => h) (by rfl) ?y09 (by assumption) ?_
          case y09 =>
            intro w hSw
            try dsimp only at hSw
            go_simp
            try with_reducible rfl
          simp only [List.set_cons_zero, List.set_cons_succ]
          refine take_to 1 66 #[true, true, false, false, false, false, false, false, false, false, false] (v := ?_) ops_5_9_1 rfl ops_5_9_ns (by kernel_rfl) (by kernel_rfl) (fun _ _ _ h => h) (by rfl) ?y19 (by assumption) ?_
          case y19 =>
            intro w hSw
            try dsimp only at hSw
            go_simp
            try with_reducible rfl
          simp only [List.set_cons_zero, List.set_cons_succ]
          refine take_to 2 67 #[true, true, true, false, false, false, false, false, false, false, false] (v := ?_) ops_5_9_2 rfl ops_5_9_ns (by kernel_rfl) (by kernel_rfl) (fun _ _ _ h => h) (by rfl) ?y29 (by assumption) ?_
          case y29 =>
            intro w hSw
            try dsimp only at hSw
            go_simp
            try with_reducible rfl
          simp only [List.set_cons_zero, List.set_cons_succ]
          refine take_to 4 69 #[true, true, true, false, true, false, false, false, false, false, false] (v := ?_) ops_5_9_4 rfl ops_5_9_ns (by kernel_rfl) (by kernel_rfl) (fun _ _ _ h => h) (by rfl) ?y49 (by assumption) ?_
          case y49 =>
            intro w hSw
            try dsimp only at hSw
            go_simp
            try with_reducible rfl
          simp only [List.set_cons_zero, List.set_cons_succ]
          refine take_to 5 70 #[true, true, true, false, true, true, false, false, false, false, false] (v := ?_) ops_5_9_5 rfl ops_5_9_ns (by kernel_rfl) (by kernel_rfl) (fun _ _ _ h => h) (by rfl) ?y59 (by assumption) ?_
          case y59 =>
            intro w hSw
            try dsimp only at hSw
            go_simp
            try with_reducible rfl
          simp only [List.set_cons_zero, List.set_cons_succ]
          refine take_to 6 71 #[true, true, true, false, true, true, true, false, false, false, false] (v := ?_) ops_5_9_6 rfl ops_5_9_ns (by kernel_rfl) (by kernel_rfl) (fun _ _ _ h => h) (by rfl) ?y69 (by assumption) ?_
          case y69 =>
            intro w hSw
            try dsimp only at hSw
            go_simp
            try with_reducible rfl
          simp only [List.set_cons_zero, List.set_cons_succ]
          refine run_to 3 #[true, true, true, true, true, true, true, false, false, false, false] ops_5_9_3 (by kernel_rfl) (by kernel_rfl) (by rfl) (fun K hK => ?_)
          go_simp
          refine (C4'.out _ (below_step hb23 hHeld.1)).mono ?_
          rintro e w' ⟨rfl, hb⟩
          go_wp2_with fail
          refine hK.out _ _ ?_ (fun hHeld => ?_)
          · (exact HS9.out _ (by first | assumption | exact hHeld.1 | exact below_step hHeld.1 (by assumption) | exact below_step hHeld.1 (below_alloc _ _)))
          clear hK K
          try simp only [Act.put, List.setIfInBounds_toArray, List.set_cons_zero, List.set_cons_succ]
          refine run_to 7 #[true, true, true, true, true, true, true, true, false, false, false] ops_5_9_7 (by kernel_rfl) (by kernel_rfl) (by rfl) (fun K hK => ?_)
          go_simp
          refine (C5'.out _ (below_step hb23 hHeld.1)).mono ?_
          rintro e w' ⟨rfl, hb⟩
          go_wp2_with fail
          refine hK.out _ _ ?_ (fun hHeld => ?_)
          · (exact HS9.out _ (by first | assumption | exact hHeld.1 | exact below_step hHeld.1 (by assumption) | exact below_step hHeld.1 (below_alloc _ _)))
          clear hK K
          try simp only [Act.put, List.setIfInBounds_toArray, List.set_cons_zero, List.set_cons_succ]
          refine run_to 8 #[true, true, true, true, true, true, true, true, true, false, false] ops_5_9_8 (by kernel_rfl) (by kernel_rfl) (by rfl) (fun K hK => ?_)
          go_simp
          refine hK.out _ _ ?_ (fun hHeld => ?_)
          · (exact HS9.out _ (by first | assumption | exact hHeld.1 | exact below_step hHeld.1 (by assumption) | exact below_step hHeld.1 (below_alloc _ _)))
          clear hK K
          try simp only [Act.put, List.setIfInBounds_toArray, List.set_cons_zero, List.set_cons_succ]
          refine run_to 9 #[true, true, true, true, true, true, true, true, true, true, false] ops_5_9_9 (by kernel_rfl) (by kernel_rfl) (by rfl) (fun K hK => ?_)
          go_simp
          refine (errs_calls _ 0 2 [FI, WN] _ (by simp) (by exact nums2 _ _ _ _)).mono ?_
          rintro e w' ⟨rfl, rfl⟩
          go_wp2_with fail
          refine hK.out _ _ ?_ (fun hHeld => ?_)
          · (exact HS9.out _ (by first | assumption | exact hHeld.1 | exact below_step hHeld.1 (by assumption) | exact below_step hHeld.1 (below_alloc _ _)))
          clear hK K
          try simp only [Act.put, List.setIfInBounds_toArray, List.set_cons_zero, List.set_cons_succ]
          refine take_to 10 10 #[true, true, true, true, true, true, true, true, true, true, true] (v := ?_) ops_5_9_10 rfl ops_5_9_ns (by kernel_rfl) (by kernel_rfl) (fun _ _ _ h => h) (by rfl) ?y109 (by assumption) ?_
          case y109 =>
            intro w hSw
            try dsimp only at hSw
            go_simp
            try with_reducible rfl
          simp only [List.set_cons_zero, List.set_cons_succ]
          refine wpAnyH_done (by kernel_rfl) ?_ _
          have hb9 := hHeld.1
          clear hHeld
          rw [← Hft.out]
          go_wp2_with fail
          go_meet
          case rel => exact ⟨rfl, hb9⟩
        · have hne : (SD == 0) = false := by rw [beq_eq_false_iff_ne]; exact hz
          have Hft := Lib.hid (HFt1.out hz)
          clear hz
          go_wp2_with fail
          go_meet
          case rel => exact ⟨by rw [Hft.out], Below.refl _ _⟩
      case rest =>
        obtain ⟨rfl, hbe⟩ := hcut
        obtain ⟨w24, hw24⟩ : ∃ x, x = wc := ⟨_, rfl⟩
        rw [← hw24] at hbe ⊢
        clear hw24
        have hb25 := below_step hb23 hbe
        have Hz25 := Lib.hid (Hz23.out.below hbe)
        clear hb23 Hz23 hbe C4 C5 HFt0 HFt1 HSc
        have Hb25 := Lib.hid hb25
        go_upto_if 76 with fail
        go_cut [11] from 12 to 92 (fun v wf => (∃ a c, v = .slice a (sbL ss cs fs ls).length c) ∧ Fis wf 0 v (sbL ss cs fs ls) ∧ Below w24.heap.size w24 wf)
        case first =>
          by_cases hz : FT = 0
          · subst hz
            have C6' := Lib.hid (C6.out rfl _ hb25)
            have Hl := Lib.hid (HL0.out rfl)
            have x6 := HX.out _ hb25
            clear C6 HL0 HL1
            go_wp2_with fail
            refine C6'.out.mono ?_
            rintro e w26 ⟨vw, rfl, hw26, hb26⟩
            rw [← Hl.out] at hw26
            obtain ⟨a, c, rfl⟩ := fis_shape hw26
            clear x6
            go_wp2_with fail
            go_meet
            case rel => exact ⟨⟨a, c, rfl⟩, Rows.mono hw26 (Nat.zero_le _), hb26⟩
          · have hne : (FT == 0) = false := by rw [beq_eq_false_iff_ne]; exact hz
            have Hl := Lib.hid (HL1.out hz)
            clear hz
            go_wp2_with fail
            go_meet
            case rel => exact ⟨⟨none, 0, by rw [Hl.out]; rfl⟩, by rw [Hl.out]; exact fis_nil _ _, Below.refl _ _⟩
        case rest =>
          obtain ⟨⟨wa, wcc, rfl⟩, hwf, hbf⟩ := hcut
          have CE := Lib.hid (equalFi_calls _ _ _ _ (sbL ss cs fs ls) (sbL ss cs fs ls) _ (Hz25.out.below hbf) hwf HLn.out HLn.out)
          rw [decide_eq_true rfl] at CE
          have Hb26 := Lib.hid (below_step Hb25.out hbf)
          have hself : (FT == FT) = true := by simp
          clear hwf hbf hb25 C6 HL0 HL1
          go_wp2_with fail
          refine CE.out.mono ?_
          rintro e w27 ⟨rfl, hb27⟩
          go_wp2_with fail
          refine (scored_calls w27).mono ?_
          rintro e w28 ⟨rfl, hb28⟩
          go_wp2_with fail
          go_ret
          exact ⟨rfl, below_step (below_step (below_step HBd.out Hb26.out) hb27) hb28⟩
end Go.Proofs.YthlfjfmlmcoihaaGreat
