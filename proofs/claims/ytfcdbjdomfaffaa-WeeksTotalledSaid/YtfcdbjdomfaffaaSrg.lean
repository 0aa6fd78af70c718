/- WeeksTotalled: the law's walk. -/
import Derived.Test.YtfcdbjdomfaffaaSrf
import Derived.Test.YtfcdbjdomfaffaaSra
import Derived.Test.YtfcdbjdomfaffaaSmt
import Derived.Deep.CutBlock
namespace Go.Proofs.Ytfcdbjdomfaffaa
open Go.RowKit

def ops_3_23 : Array Go.Oper := #[
  { dst := some 84, op := Go.Op.move (Go.Operand.tmp 11), type := 42, pos := "scores.go:62", after := #[], guard := none },
  { dst := some 85, op := Go.Op.move (Go.Operand.tmp 14), type := 3, pos := "scores.go:62", after := #[], guard := none },
  { dst := some 86, op := Go.Op.binOp Go.BinOp.gtr 3 (Go.Operand.tmp 85) (Go.Operand.const (Go.Value.int Go.IntKind.i64 0)) 3, type := 4, pos := "scores.go:62", after := #[{ on := 1, ground := Go.Ground.data }], guard := none },
  { dst := some 87, op := Go.Op.move (Go.Operand.tmp 86), type := 4, pos := "scores.go:62", after := #[{ on := 2, ground := Go.Ground.data }], guard := none },
  { dst := some 88, op := Go.Op.fieldAddr 36 (Go.Operand.tmp 15) 1, type := 0, pos := "scores.go:62", after := #[{ on := 3, ground := Go.Ground.guard }], guard := some (3, true) },
  { dst := some 89, op := Go.Op.load 3 (Go.Operand.tmp 88), type := 3, pos := "scores.go:62", after := #[{ on := 4, ground := Go.Ground.data }, { on := 3, ground := Go.Ground.guard }], guard := some (3, true) },
  { dst := some 90, op := Go.Op.move (Go.Operand.tmp 6), type := 30, pos := "scores.go:62", after := #[{ on := 3, ground := Go.Ground.guard }], guard := some (3, true) },
  { dst := some 91, op := Go.Op.move (Go.Operand.tmp 14), type := 3, pos := "scores.go:62", after := #[{ on := 3, ground := Go.Ground.guard }], guard := some (3, true) },
  { dst := some 92, op := Go.Op.binOp Go.BinOp.sub 3 (Go.Operand.tmp 91) (Go.Operand.const (Go.Value.int Go.IntKind.i64 1)) 3, type := 3, pos := "scores.go:62", after := #[{ on := 7, ground := Go.Ground.data }, { on := 3, ground := Go.Ground.guard }], guard := some (3, true) },
  { dst := some 93, op := Go.Op.call { callee := Go.Callee.builtin Go.Builtin.max, args := #[Go.Operand.const (Go.Value.int Go.IntKind.i64 0), Go.Operand.tmp 92], argTypes := #[3, 3] }, type := 3, pos := "scores.go:62", after := #[{ on := 8, ground := Go.Ground.data }, { on := 3, ground := Go.Ground.guard }], guard := some (3, true) },
  { dst := some 94, op := Go.Op.indexAddr 30 (Go.Operand.tmp 90) (Go.Operand.tmp 93), type := 0, pos := "scores.go:62", after := #[{ on := 6, ground := Go.Ground.data }, { on := 9, ground := Go.Ground.data }, { on := 3, ground := Go.Ground.guard }], guard := some (3, true) },
  { dst := some 95, op := Go.Op.fieldAddr 36 (Go.Operand.tmp 94) 1, type := 0, pos := "scores.go:62", after := #[{ on := 10, ground := Go.Ground.data }, { on := 3, ground := Go.Ground.guard }], guard := some (3, true) },
  { dst := some 96, op := Go.Op.load 3 (Go.Operand.tmp 95), type := 3, pos := "scores.go:62", after := #[{ on := 11, ground := Go.Ground.data }, { on := 3, ground := Go.Ground.guard }], guard := some (3, true) },
  { dst := some 97, op := Go.Op.binOp Go.BinOp.leq 3 (Go.Operand.tmp 89) (Go.Operand.tmp 96) 3, type := 4, pos := "scores.go:62", after := #[{ on := 5, ground := Go.Ground.data }, { on := 12, ground := Go.Ground.data }, { on := 3, ground := Go.Ground.guard }], guard := some (3, true) },
  { dst := some 98, op := Go.Op.pick (Go.Operand.tmp 87) (Go.Operand.tmp 97) (Go.Operand.const (Go.Value.bool false)), type := 4, pos := "scores.go:62", after := #[{ on := 3, ground := Go.Ground.data }, { on := 13, ground := Go.Ground.data }], guard := none },
  { dst := some 99, op := Go.Op.call { callee := Go.Callee.value (Go.Operand.func 15), args := #[Go.Operand.tmp 98, Go.Operand.const (Go.Value.int Go.IntKind.i64 7)], argTypes := #[4, 42] }, type := 42, pos := "scores.go:62", after := #[{ on := 14, ground := Go.Ground.data }, { on := 3, ground := Go.Ground.chain }], guard := none },
  { dst := some 100, op := Go.Op.buildSlice 67 2 #[(0, Go.Operand.tmp 84), (1, Go.Operand.tmp 99)], type := 67, pos := "scores.go:62", after := #[{ on := 0, ground := Go.Ground.data }, { on := 15, ground := Go.Ground.data }], guard := none },
  { dst := some 101, op := Go.Op.call { callee := Go.Callee.value (Go.Operand.func 11), args := #[Go.Operand.tmp 100], argTypes := #[67] }, type := 42, pos := "scores.go:62", after := #[{ on := 16, ground := Go.Ground.data }, { on := 15, ground := Go.Ground.chain }], guard := none },
  { dst := some 11, op := Go.Op.assign (Go.Operand.tmp 101), type := 42, pos := "scores.go:62", after := #[{ on := 17, ground := Go.Ground.data }, { on := 17, ground := Go.Ground.chain }, { on := 0, ground := Go.Ground.phase }, { on := 1, ground := Go.Ground.phase }, { on := 2, ground := Go.Ground.phase }, { on := 3, ground := Go.Ground.phase }, { on := 4, ground := Go.Ground.phase }, { on := 5, ground := Go.Ground.phase }, { on := 6, ground := Go.Ground.phase }, { on := 7, ground := Go.Ground.phase }, { on := 8, ground := Go.Ground.phase }, { on := 9, ground := Go.Ground.phase }, { on := 10, ground := Go.Ground.phase }, { on := 11, ground := Go.Ground.phase }, { on := 12, ground := Go.Ground.phase }, { on := 13, ground := Go.Ground.phase }, { on := 14, ground := Go.Ground.phase }, { on := 15, ground := Go.Ground.phase }, { on := 16, ground := Go.Ground.phase }, { on := 17, ground := Go.Ground.phase }], guard := none }]
theorem ops_3_23_0 : ops_3_23[0]? = some ({ dst := some 84, op := Go.Op.move (Go.Operand.tmp 11), type := 42, pos := "scores.go:62", after := #[], guard := none } : Go.Oper) := rfl
theorem ops_3_23_1 : ops_3_23[1]? = some ({ dst := some 85, op := Go.Op.move (Go.Operand.tmp 14), type := 3, pos := "scores.go:62", after := #[], guard := none } : Go.Oper) := rfl
theorem ops_3_23_2 : ops_3_23[2]? = some ({ dst := some 86, op := Go.Op.binOp Go.BinOp.gtr 3 (Go.Operand.tmp 85) (Go.Operand.const (Go.Value.int Go.IntKind.i64 0)) 3, type := 4, pos := "scores.go:62", after := #[{ on := 1, ground := Go.Ground.data }], guard := none } : Go.Oper) := rfl
theorem ops_3_23_3 : ops_3_23[3]? = some ({ dst := some 87, op := Go.Op.move (Go.Operand.tmp 86), type := 4, pos := "scores.go:62", after := #[{ on := 2, ground := Go.Ground.data }], guard := none } : Go.Oper) := rfl
theorem ops_3_23_4 : ops_3_23[4]? = some ({ dst := some 88, op := Go.Op.fieldAddr 36 (Go.Operand.tmp 15) 1, type := 0, pos := "scores.go:62", after := #[{ on := 3, ground := Go.Ground.guard }], guard := some (3, true) } : Go.Oper) := rfl
theorem ops_3_23_5 : ops_3_23[5]? = some ({ dst := some 89, op := Go.Op.load 3 (Go.Operand.tmp 88), type := 3, pos := "scores.go:62", after := #[{ on := 4, ground := Go.Ground.data }, { on := 3, ground := Go.Ground.guard }], guard := some (3, true) } : Go.Oper) := rfl
theorem ops_3_23_6 : ops_3_23[6]? = some ({ dst := some 90, op := Go.Op.move (Go.Operand.tmp 6), type := 30, pos := "scores.go:62", after := #[{ on := 3, ground := Go.Ground.guard }], guard := some (3, true) } : Go.Oper) := rfl
theorem ops_3_23_7 : ops_3_23[7]? = some ({ dst := some 91, op := Go.Op.move (Go.Operand.tmp 14), type := 3, pos := "scores.go:62", after := #[{ on := 3, ground := Go.Ground.guard }], guard := some (3, true) } : Go.Oper) := rfl
theorem ops_3_23_8 : ops_3_23[8]? = some ({ dst := some 92, op := Go.Op.binOp Go.BinOp.sub 3 (Go.Operand.tmp 91) (Go.Operand.const (Go.Value.int Go.IntKind.i64 1)) 3, type := 3, pos := "scores.go:62", after := #[{ on := 7, ground := Go.Ground.data }, { on := 3, ground := Go.Ground.guard }], guard := some (3, true) } : Go.Oper) := rfl
theorem ops_3_23_9 : ops_3_23[9]? = some ({ dst := some 93, op := Go.Op.call { callee := Go.Callee.builtin Go.Builtin.max, args := #[Go.Operand.const (Go.Value.int Go.IntKind.i64 0), Go.Operand.tmp 92], argTypes := #[3, 3] }, type := 3, pos := "scores.go:62", after := #[{ on := 8, ground := Go.Ground.data }, { on := 3, ground := Go.Ground.guard }], guard := some (3, true) } : Go.Oper) := rfl
theorem ops_3_23_10 : ops_3_23[10]? = some ({ dst := some 94, op := Go.Op.indexAddr 30 (Go.Operand.tmp 90) (Go.Operand.tmp 93), type := 0, pos := "scores.go:62", after := #[{ on := 6, ground := Go.Ground.data }, { on := 9, ground := Go.Ground.data }, { on := 3, ground := Go.Ground.guard }], guard := some (3, true) } : Go.Oper) := rfl
theorem ops_3_23_11 : ops_3_23[11]? = some ({ dst := some 95, op := Go.Op.fieldAddr 36 (Go.Operand.tmp 94) 1, type := 0, pos := "scores.go:62", after := #[{ on := 10, ground := Go.Ground.data }, { on := 3, ground := Go.Ground.guard }], guard := some (3, true) } : Go.Oper) := rfl
theorem ops_3_23_12 : ops_3_23[12]? = some ({ dst := some 96, op := Go.Op.load 3 (Go.Operand.tmp 95), type := 3, pos := "scores.go:62", after := #[{ on := 11, ground := Go.Ground.data }, { on := 3, ground := Go.Ground.guard }], guard := some (3, true) } : Go.Oper) := rfl
theorem ops_3_23_13 : ops_3_23[13]? = some ({ dst := some 97, op := Go.Op.binOp Go.BinOp.leq 3 (Go.Operand.tmp 89) (Go.Operand.tmp 96) 3, type := 4, pos := "scores.go:62", after := #[{ on := 5, ground := Go.Ground.data }, { on := 12, ground := Go.Ground.data }, { on := 3, ground := Go.Ground.guard }], guard := some (3, true) } : Go.Oper) := rfl
theorem ops_3_23_14 : ops_3_23[14]? = some ({ dst := some 98, op := Go.Op.pick (Go.Operand.tmp 87) (Go.Operand.tmp 97) (Go.Operand.const (Go.Value.bool false)), type := 4, pos := "scores.go:62", after := #[{ on := 3, ground := Go.Ground.data }, { on := 13, ground := Go.Ground.data }], guard := none } : Go.Oper) := rfl
theorem ops_3_23_15 : ops_3_23[15]? = some ({ dst := some 99, op := Go.Op.call { callee := Go.Callee.value (Go.Operand.func 15), args := #[Go.Operand.tmp 98, Go.Operand.const (Go.Value.int Go.IntKind.i64 7)], argTypes := #[4, 42] }, type := 42, pos := "scores.go:62", after := #[{ on := 14, ground := Go.Ground.data }, { on := 3, ground := Go.Ground.chain }], guard := none } : Go.Oper) := rfl
theorem ops_3_23_16 : ops_3_23[16]? = some ({ dst := some 100, op := Go.Op.buildSlice 67 2 #[(0, Go.Operand.tmp 84), (1, Go.Operand.tmp 99)], type := 67, pos := "scores.go:62", after := #[{ on := 0, ground := Go.Ground.data }, { on := 15, ground := Go.Ground.data }], guard := none } : Go.Oper) := rfl
theorem ops_3_23_17 : ops_3_23[17]? = some ({ dst := some 101, op := Go.Op.call { callee := Go.Callee.value (Go.Operand.func 11), args := #[Go.Operand.tmp 100], argTypes := #[67] }, type := 42, pos := "scores.go:62", after := #[{ on := 16, ground := Go.Ground.data }, { on := 15, ground := Go.Ground.chain }], guard := none } : Go.Oper) := rfl
theorem ops_3_23_18 : ops_3_23[18]? = some ({ dst := some 11, op := Go.Op.assign (Go.Operand.tmp 101), type := 42, pos := "scores.go:62", after := #[{ on := 17, ground := Go.Ground.data }, { on := 17, ground := Go.Ground.chain }, { on := 0, ground := Go.Ground.phase }, { on := 1, ground := Go.Ground.phase }, { on := 2, ground := Go.Ground.phase }, { on := 3, ground := Go.Ground.phase }, { on := 4, ground := Go.Ground.phase }, { on := 5, ground := Go.Ground.phase }, { on := 6, ground := Go.Ground.phase }, { on := 7, ground := Go.Ground.phase }, { on := 8, ground := Go.Ground.phase }, { on := 9, ground := Go.Ground.phase }, { on := 10, ground := Go.Ground.phase }, { on := 11, ground := Go.Ground.phase }, { on := 12, ground := Go.Ground.phase }, { on := 13, ground := Go.Ground.phase }, { on := 14, ground := Go.Ground.phase }, { on := 15, ground := Go.Ground.phase }, { on := 16, ground := Go.Ground.phase }, { on := 17, ground := Go.Ground.phase }], guard := none } : Go.Oper) := rfl
theorem ops_3_23_ns : Go.Region.noSelect ops_3_23 = true := by kernel_rfl
set_option maxRecDepth 100000 in
set_option maxHeartbeats 16000000 in
theorem weeks_law (lv : Value) (w : World) (hl : Tape w lv) : Calls Try.prog 3 #[lv] w (BoolIs true w) := by
  have hs1 := hl.stm 25
  obtain ⟨la, ln, lc, rfl⟩ := hl.shape
  obtain ⟨i0, hi, hz0, hz1, hz2⟩ := info_parts info_ln
  have HI := Lib.hid (And.intro hi (And.intro hz0 (And.intro hz1 hz2)))
  clear hl hi hz0 hz1 hz2
  go_enter Try.func3, Try.ntmps3
  go_wp2_with fail
  refine (rules_calls w.heap.size 0 _ hs1 (by omega)).mono ?_
  rintro e w2 ⟨vr, ⟨rs, hR, hrl, hrs⟩, rfl, hs2, hg2⟩
  have hb2 : Below w.heap.size w w2 := (below_alloc w _).grown hg2 (by simp) (fun r hr => by cases hr; exact Nat.le_refl _)
  have Hrs := Lib.hid hrs
  obtain ⟨ra, rc, rfl⟩ := rls_shape hR
  have hlo1 : w.heap.size < (w.alloc (.cells #[.slice la ln lc, .int .i64 0] 25)).heap.size := by simp
  clear hs1 hg2 hrs
  generalize (w.alloc (.cells #[.slice la ln lc, .int .i64 0] 25)).heap.size = lo1 at hR hlo1
  go_wp2_with fail
  refine (posits_calls w.heap.size _ w2 hs2 (by omega)).mono ?_
  rintro e w3 ⟨vk, ⟨ks, hK, hkl, hks⟩, rfl, hs3, hg3⟩
  have hlo2 := hs2.lt
  have hb3 := hb2.grown hg3 (hb2.size) (fun r hr => by cases hr; exact Nat.le_refl _)
  have hR3 := hR.other hg3 hlo1
  have Hks := Lib.hid hks
  obtain ⟨ka, kc, rfl⟩ := strs_shape hK
  clear hs2 hg3 hks hR hb2
  generalize w2.heap.size = lo2 at hK hlo2
  have hlo3 := hs3.lt
  go_wp2_with fail
  refine (range_calls w.heap.size _ 0 5 w3 hs3 (by omega) (by omega) (by omega) (by omega)).mono ?_
  rintro e w4 ⟨v, ⟨m0, rfl, hm0, hm5⟩, rfl, hs4, hg4⟩
  obtain ⟨m, rfl⟩ : ∃ m : Nat, m0 = (m : Int) := ⟨m0.toNat, by omega⟩
  have hm5 : m ≤ 5 := by omega
  clear hs3 hm0
  have HR3 := Lib.hid hR3
  have HK3 := Lib.hid hK
  have HB3 := Lib.hid hb3
  clear hR3 hK hb3
  go_wp2_with fail
  go_loopw [6, 7, 26] (fun x wk i wr => ∃ (k : Nat) (ls : List LD) (n : Int), k ≤ m ∧ i = .int .i64 k ∧ wk = .int .i64 n ∧ (-(k : Int) ≤ n ∧ n ≤ 2 * k) ∧ ls.length = k ∧ Hid (∀ l ∈ ls, SmallL l) ∧ OwnLn w3.heap.size wr x ls ∧ St wr w.heap.size (68 + 26 * k) ∧ w3.grownBy wr (some w.heap.size)) (fun _ _ i _ => m - (intOf i).toNat)
  case atStart => exact ⟨0, [], 0, Nat.zero_le _, rfl, rfl, ⟨by omega, by omega⟩, rfl, Lib.hid (by simp), OwnLn.nil _ _, hs4, hg4⟩
  case round =>
    clear hs4 hg4
    obtain ⟨k, ls, n, hk, rfl, rfl, ⟨hn1, hn2⟩, hlk, Hls, hO, hs5, hg5⟩ := hrel
    have Hlk := Lib.hid hlk
    clear hlk
    by_cases hlt : k < m
    · go_wp2_with fail
      refine (pick_calls w.heap.size _ wr.heap.size _ [1, 1, 2] _ (hs5.alloc _) (by omega) (ints_new wr [1, 1, 2] (by decide)) hs5.lt (by simp)).mono ?_
      rintro e w6 ⟨v, ⟨c, rfl, hc⟩, rfl, hs6, hg6⟩
      have hc2 : 1 ≤ c ∧ c ≤ 2 := by
        simp only [List.mem_cons, List.not_mem_nil, or_false] at hc
        omega
      have hO6 := (hO.alloc (.cells ([1, 1, 2].map (Value.int .i64)).toArray 3)).keep hg6 hlo3
      have hg36 := gb_trans hg5 (gb_trans (gb_alloc wr _ _) hg6)
      clear hs5 hg5 hg6 hO hc
      have hwr : IntKind.i64.wrap (n + c) = n + c := IntWalk.i64_in _ (by omega)
      go_wp2_with fail
      refine (flip_calls w.heap.size _ 25 w6 hs6 (by omega) (by omega) (by omega)).mono ?_
      rintro e w7 ⟨v, ⟨b, rfl⟩, rfl, hs7, hg7⟩
      have hO7 := hO6.keep hg7 hlo3
      have hg37 := gb_trans hg36 hg7
      clear hs6 hg36 hO6 hg7
      go_upto_if 34 with fail
      go_cut [7] from 28 to 43 (fun wk wc => (∃ n2 : Int, wk = .int .i64 n2 ∧ -((k : Int) + 1) ≤ n2 ∧ n2 ≤ 2 * ((k : Int) + 1)) ∧ w7 = wc)
      case first =>
        cases b
        · go_wp2_with fail
          go_meet
          case rel => exact ⟨⟨n + c, rfl, by omega, by omega⟩, rfl⟩
        · have hwr2 : IntKind.i64.wrap (n + c - 1) = n + c - 1 := IntWalk.i64_in _ (by omega)
          go_wp2_with fail
          go_meet
          case rel => exact ⟨⟨n + c - 1, rfl, by omega, by omega⟩, rfl⟩
      case rest =>
        obtain ⟨⟨n2, rfl, hn3, hn4⟩, hwc⟩ := hcut
        subst hwc
        clear hwr hn1 hn2 hc2
        have hszk := hg37.size
        go_wp2_with fail
        refine (aLine_calls w.heap.size _ n2 w7 hs7 (by omega) (by unfold Int64; omega)).mono ?_
        rintro e w8 ⟨v, ⟨l, x, rfl, hT, hsl⟩, rfl, hs8, hg8⟩
        have hO8 := hO7.keep hg8 hlo3
        have hg38 := gb_trans hg37 hg8
        have hT8 := hT.mono hszk
        obtain ⟨ta, tc, rfl⟩ := tds_shape hT
        have Hsl := Lib.hid hsl
        unfold lnV
        clear hs7 hg37 hO7 hg8 hT hsl
        obtain ⟨xs, hown, hadd⟩ := (hO8.alloc (.cells #[.string l.player, .int .i64 l.week, .slice ta l.stats.length tc] 36)).own
        have hblk := (hO8.alloc (.cells #[.string l.player, .int .i64 l.week, .slice ta l.stats.length tc] 36)).block
        have Hadd := Lib.hid hadd
        have HT8 := Lib.hid (hT8.below (below_alloc w8 (.cells #[.string l.player, .int .i64 l.week, .slice ta l.stats.length tc] 36)))
        have Hblk := Lib.hid hblk
        have hlk := Hlk.out
        clear hadd hO8 hT8 hblk
        go_wp2_with (at_builtin; obtain ⟨hi, hz0, hz1, hz2⟩ := HI.out; refine wpList_append_own _ rfl _ _ 30 rfl w3.heap.size 36 i0 (.agg #[.string ⟨#[]⟩, .int .i64 0, .slice none 0 0]) 3 48 Try.underlying30 hi hz0 hz1 hz2 rfl (by decide) _ _ _ rfl hown ⟨w8.heap.size, 0, none⟩ 1 1 [.string l.player, .int .i64 l.week, .slice ta l.stats.length tc] rfl rfl ?c1 ?c2 ?c3 ?c4 ?c5 ?_)
        case c1 => exact cells_new _ _ _
        case c2 => simp [Value.oneCell']
        case c3 => unfold maxLen; omega
        case c4 => omega
        case c5 => have := hg38.size; simp; omega
        intro v' w9 hown9 hgrow _
        have hO9 := Hadd.out w9 v' l _ HT8.out hgrow (by rw [hlk]; exact hown9)
        go_wp2_with fail
        go_roundw
        case rel =>
          refine ⟨k + 1, ls ++ [l], n2, by omega, by go_num, rfl, ⟨by omega, by omega⟩, by simp; exact Hlk.out, Lib.hid fun y hy => ?_, hO9, ((hs8.alloc _).grown hgrow fun r hr => ?_).mono (by omega), gb_then (gb_trans hg38 (gb_alloc w8 _ _)) hgrow fun r hr => (Hblk.out r hr).1⟩
          · rcases List.mem_append.1 hy with h | h
            · exact Hls.out y h
            · obtain rfl := List.mem_singleton.1 h; exact Hsl.out
          · have := (Hblk.out r hr).1; omega
        case measure => simp [intOf]; omega
    · obtain rfl : k = m := by omega
      have hl5 : ls.length ≤ 5 := by have := Hlk.out; omega
      have hL := hO.lns (by omega)
      clear hO
      go_wp2_with fail
      refine (pick_calls w.heap.size _ wr.heap.size _ [1, 1, 2, 0] _ (hs5.alloc _) (by omega) (ints_new wr [1, 1, 2, 0] (by decide)) hs5.lt (by simp)).mono ?_
      rintro e w6 ⟨v, ⟨a, rfl, ha⟩, rfl, hs6, hg6⟩
      have hgr6 := gb_trans (gb_alloc wr _ _) hg6
      clear hs5 hg6 ha
      go_wp2_with fail
      refine (pick_calls w.heap.size _ w6.heap.size _ [1, 3, 4, 9, 61, 62] _ (hs6.alloc _) (by omega) (ints_new w6 [1, 3, 4, 9, 61, 62] (by decide)) hs6.lt (by simp)).mono ?_
      rintro e w7 ⟨v, ⟨b, rfl, hb⟩, rfl, hs7, hg7⟩
      have hgr7 := gb_trans hgr6 (gb_trans (gb_alloc w6 _ _) hg7)
      have hg37 := gb_trans hg5 hgr7
      have hR7 := HR3.out.other hg37 hlo1
      have hK7 := HK3.out.other hg37 hlo2
      have hL7 := hL.other hgr7 hlo3
      have hb7 := HB3.out.grown hg37 (HB3.out.size) (fun r hr => by cases hr; exact Nat.le_refl _)
      clear hs6 hs7 hg7 hb hgr6 hgr7 hg37 hL hg5
      go_upto_region 13 with fail
      obtain ⟨W, hW⟩ : ∃ W, W = w7.alloc (.cells #[.int .i64 a, .int .i64 b] 39) := ⟨_, rfl⟩
      obtain ⟨D, hD⟩ : ∃ D, D = w7.heap.size := ⟨_, rfl⟩
      have hy : W.heap[D]? = some (.cells #[.int .i64 a, .int .i64 b] 39 (0, 0)) := by rw [hW, hD]; exact heap_alloc_new w7 _
      have h7W : Below w7.heap.size w7 W := by rw [hW]; exact below_alloc w7 _
      rw [← hW, ← hD]
      have y0 := cell_at hy 0 rfl
      have y1 := cell_at hy 1 rfl
      obtain ⟨lo3, hlo⟩ : ∃ lo3, lo3 = w3.heap.size := ⟨_, rfl⟩
      rw [← hlo] at hL7
      have hRW := hR7.below h7W
      have hKW := hK7.below h7W
      have hLW := hL7.below h7W
      have hwW := below_step hb7 h7W
      obtain ⟨xa, xc, rfl⟩ := lns_shape hLW
      have HC1 := Lib.hid (total_calls lo1 lo2 lo3 _ _ _ rs ks ls a b W hRW Hrs.out (by omega) hKW Hks.out (by omega) hLW Hls.out (by omega))
      have HY := Lib.hid hy
      clear hR7 hK7 hL7 hb7 h7W hW hD hy hlo
      generalize hR : totF rs ks ls a b = R at HC1
      obtain ⟨r1, r2⟩ := R
      have HR := Lib.hid hR
      unfold TwoIs frV at HC1
      clear hR
      obtain ⟨E, hE⟩ : ∃ E, E = totE rs ks ls a b := ⟨_, rfl⟩
      have HE := Lib.hid hE
      rw [← hE] at HC1
      clear hE
      go_cut [9, 10] from 51 to 58 (fun p e wc => (∃ G, p = .pointer (some ⟨G, 0, none⟩) ∧ wc.heap[G]? = some (.cells #[.int .i64 r1, .int .i64 r2] 41 (0, 0))) ∧ e = .int .i64 E ∧ Below W.heap.size W wc)
      case first =>
        clear hRW hKW hLW hwW
        go_wp2_with fail
        refine HC1.out.mono ?_
        rintro e w8 ⟨rfl, hb8⟩
        clear y0 y1
        have hz8 := heap_alloc_new w8 (.cells #[.int .i64 r1, .int .i64 r2] 41)
        have Hz8 := Lib.hid hz8
        clear hz8
        go_wp2_with fail
        go_meet
        case rel => exact ⟨⟨w8.heap.size, rfl, Hz8.out⟩, rfl, below_step hb8 (below_alloc w8 _)⟩
      case rest =>
      obtain ⟨⟨G, rfl, hz⟩, rfl, hb9⟩ := hcut
      obtain ⟨W9, hW9⟩ : ∃ W9, W9 = wc := ⟨_, rfl⟩
      rw [← hW9] at hz hb9 ⊢
      clear hW9 wc
      have hy9 := cells_later HY.out hb9
      have HS := Lib.hid (show ∀ w', Below W9.heap.size W9 w' → w'.cell? ⟨D, 0, none⟩ = some (.int .i64 a) ∧ w'.cell? ⟨D, 1, none⟩ = some (.int .i64 b) ∧ w'.cell? ⟨G, 0, none⟩ = some (.int .i64 r1) ∧ w'.cell? ⟨G, 1, none⟩ = some (.int .i64 r2) from fun w' hb => ⟨below_cell hb (cell_at hy9 0 rfl), below_cell hb (cell_at hy9 1 rfl), below_cell hb (cell_at hz 0 rfl), below_cell hb (cell_at hz 1 rfl)⟩)
      have hLs := Hls.out
      have HR9 := Lib.hid (fun w' (hb : Below W9.heap.size W9 w') => hRW.below (below_step hb9 hb))
      have HK9 := Lib.hid (fun w' (hb : Below W9.heap.size W9 w') => hKW.below (below_step hb9 hb))
      have HL9 := Lib.hid (fun w' (hb : Below W9.heap.size W9 w') => hLW.below (below_step hb9 hb))
      have HbW := Lib.hid (below_step hwW hb9)
      have hb0 := Below.refl W9.heap.size W9
      clear hRW hKW hLW hwW y0 y1 hz hb9 hy9 HC1 HY hLs
      go_wp2_with fail
      refine (rulesFault_calls lo1 _ rs W9 (HR9.out _ hb0) Hrs.out (by omega)).mono ?_
      rintro e w10 ⟨rfl, hb10⟩
      clear hb0
      go_wp2_with fail
      refine (listFault_calls false lo2 _ ks w10 (HK9.out _ hb10) Hks.out (by omega)).mono ?_
      rintro e w11 ⟨rfl, rfl⟩
      go_wp2_with fail
      refine (errs_calls _ 0 2 [chkRl rs, lfE false ks] _ (by simp) (nums2 _ _ _ _)).mono ?_
      rintro e w11 ⟨rfl, rfl⟩
      have hb11 := below_step hb10 (below_alloc w10 (.cells #[.int .i64 (chkRl rs), .int .i64 (lfE false ks)] 42))
      rw [wr_first]
      have HF0 := Lib.hid (errs_zero (wrE rs ks) (fun i => lnE (lnAt ls i)))
      have HTF := Lib.hid (tot_first (rs := rs) (ks := ks) (ls := ls) (a := a) (b := b) (by omega))
      rw [← HE.out] at HTF
      generalize wrE rs ks = F0 at HF0 HTF ⊢
      generalize w10.alloc (.cells #[.int .i64 (chkRl rs), .int .i64 (lfE false ks)] 42) = w11 at hb11 ⊢
      clear hb10
      go_wp2_with fail
      go_loopw [11, 67] (fun f i wr => ∃ k : Nat, k ≤ ls.length ∧ i = .int .i64 k ∧ f = .int .i64 (firstE [F0, errsTo (fun i => lnE (lnAt ls i)) k]) ∧ Below W9.heap.size W9 wr) (fun _ i _ => ls.length - (intOf i).toNat)
      case atStart => exact ⟨0, Nat.zero_le _, rfl, by rw [HF0.out], hb11⟩
      case round =>
        clear hb11 w11
        obtain ⟨k, hk, rfl, rfl, hb⟩ := hrel
        have Hst := Lib.hid (errs_step F0 (fun i => lnE (lnAt ls i)) k)
        generalize hF : firstE [F0, errsTo (fun i => lnE (lnAt ls i)) k] = F at Hst ⊢
        have HFe := Lib.hid hF
        clear hF
        by_cases hlt : k < ls.length
        · obtain ⟨l, hli⟩ : ∃ l, ls[k]? = some l := ⟨ls[k], List.getElem?_eq_getElem hlt⟩
          have hm := List.mem_of_getElem? hli
          rcases lns_at (HL9.out wr hb) with ⟨_, h⟩ | ⟨g, off, cap, e, _, hg, _, hcell⟩
          · rw [h] at hlt; simp at hlt
          simp only [Value.slice.injEq] at e
          obtain ⟨rfl, -, rfl⟩ := e
          obtain ⟨u, q0, q1, q2, hT⟩ := hcell k l hli
          obtain ⟨ua, uc, rfl⟩ := tds_shape hT
          have Hst2 := Lib.hid (show firstE [F, lnE l] = firstE [F0, errsTo (fun i => lnE (lnAt ls i)) (k + 1)] by rw [← Hst.out, lnAt_some hli])
          have HC := Lib.hid (fun w' (hb' : Below wr.heap.size wr w') => lineFault_calls lo3 l _ w' (hT.below hb') (Hls.out l hm))
          clear hli hm hcell hT Hst
          go_upto_region 18 with fail
          obtain ⟨wA, hwA⟩ : ∃ wA, wA = wr.alloc (.cells #[.string l.player, .int .i64 l.week, .slice ua l.stats.length uc] 36) := ⟨_, rfl⟩
          obtain ⟨X, hX⟩ : ∃ X, X = wr.heap.size := ⟨_, rfl⟩
          have hx : wA.heap[X]? = some (.cells #[.string l.player, .int .i64 l.week, .slice ua l.stats.length uc] 36 (0, 0)) := by rw [hwA, hX]; exact heap_alloc_new wr _
          have hbA : Below W9.heap.size W9 wA := by rw [hwA]; exact below_step hb (below_alloc wr _)
          have HCA := Lib.hid (HC.out wA (by rw [hwA]; exact below_alloc wr _))
          rw [← hwA, ← hX]
          have x0 := cell_at hx 0 rfl
          have x1 := cell_at hx 1 rfl
          have x2 := cell_at hx 2 rfl
          have HbA := Lib.hid hbA
          unfold lnV at HCA
          clear hwA hX hx hb hbA q0 q1 q2 HC
          go_wp2_with fail
          refine HCA.out.mono ?_
          rintro e w12 ⟨rfl, hb12⟩
          have hb13 := below_step HbA.out hb12
          clear hb12 x0 x1 x2 HCA
          generalize lnE l = e1 at Hst2 ⊢
          go_wp2_with fail
          refine (errs_calls _ 0 2 [F, e1] _ (by simp) (nums2 _ _ _ _)).mono ?_
          rintro e w13 ⟨rfl, rfl⟩
          have Hb14 := Lib.hid (below_step hb13 (below_alloc w12 (.cells #[.int .i64 F, .int .i64 e1] 42)))
          rw [Hst2.out]
          clear hb13
          go_wp2_with fail
          go_roundw
          case rel => exact ⟨k + 1, by omega, by go_num, rfl, Hb14.out⟩
          case measure => simp [intOf]; omega
        · obtain rfl : k = ls.length := by omega
          clear Hst
          rw [HFe.out] at HTF
          have HF1 := Lib.hid (errs_zero F (wkF ls))
          clear HFe HF0
          go_wp2_with fail
          go_loopw [11, 79] (fun f i wr => ∃ k : Nat, k ≤ ls.length ∧ i = .int .i64 k ∧ f = .int .i64 (firstE [F, errsTo (wkF ls) k]) ∧ Below W9.heap.size W9 wr) (fun _ i _ => ls.length - (intOf i).toNat)
          case atStart => exact ⟨0, Nat.zero_le _, rfl, by rw [HF1.out], hb⟩
          case round =>
            clear hb
            obtain ⟨k, hk, rfl, rfl, hb⟩ := hrel
            have Hst := Lib.hid (errs_step F (wkF ls) k)
            generalize hF2 : firstE [F, errsTo (wkF ls) k] = F2 at Hst ⊢
            have HF2 := Lib.hid hF2
            clear hF2
            by_cases hlt : k < ls.length
            · obtain ⟨l, hli⟩ : ∃ l, ls[k]? = some l := ⟨ls[k], List.getElem?_eq_getElem hlt⟩
              rcases lns_at (HL9.out wr hb) with ⟨_, h⟩ | ⟨g, off, cap, e, _, hg, _, hcell⟩
              · rw [h] at hlt; simp at hlt
              simp only [Value.slice.injEq] at e
              obtain ⟨rfl, -, rfl⟩ := e
              obtain ⟨u, q0, q1, q2, hT⟩ := hcell k l hli
              obtain ⟨ua, uc, rfl⟩ := tds_shape hT
              have Hcell := Lib.hid hcell
              have Hli := Lib.hid hli
              clear hli hcell hT
              have Hb := Lib.hid hb
              clear hb
              go_upto_block 5 with fail
              go_cut [11] from 80 to 101 (fun f wc => f = .int .i64 (firstE [F, errsTo (wkF ls) (k + 1)]) ∧ Below wr.heap.size wr wc)
              case first =>
                go_upto_region 23 with fail
                obtain ⟨wA, hwA⟩ : ∃ wA, wA = wr.alloc (.cells #[.string l.player, .int .i64 l.week, .slice ua l.stats.length uc] 36) := ⟨_, rfl⟩
                obtain ⟨X, hX⟩ : ∃ X, X = wr.heap.size := ⟨_, rfl⟩
                have hx : wA.heap[X]? = some (.cells #[.string l.player, .int .i64 l.week, .slice ua l.stats.length uc] 36 (0, 0)) := by rw [hwA, hX]; exact heap_alloc_new wr _
                have hbr : Below wr.heap.size wr wA := by rw [hwA]; exact below_alloc wr _
                have Hbr := Lib.hid hbr
                have hb0 := (Below.refl wA.heap.size wA).drew
                rw [← hwA, ← hX]
                have x1 := cell_at hx 1 rfl
                have Hx1 := Lib.hid x1
                clear hwA hX hx q0 q1 q2 x1 hbr
                by_cases h0 : k = 0
                · have HN := Lib.hid (show firstE [F2, 0] = firstE [F, errsTo (wkF ls) (k + 1)] by rw [← Hst.out, h0, wk_zero])
                  have hk0 : ¬ 0 < (k : Int) := by omega
                  have HSk := Lib.hid (show ∀ w', Below wA.heap.size wA w' → (Below wA.heap.size wA w' ∧ w'.cell? ⟨X, 1, none⟩ = some (.int .i64 l.week)) from fun w' hb => ⟨hb, below_cell hb Hx1.out⟩)
                  clear h0
                  show Code.wp _ (Code.region 23 ops_3_23 true) _ _ _
                  refine region_start 19 (fun w' => Below wA.heap.size wA w' ∧ w'.cell? ⟨X, 1, none⟩ = some (.int .i64 l.week)) (by kernel_rfl) rfl ?_ (fun hHeld => ?_)
                  · (exact HSk.out _ (by first | assumption | exact hHeld.1 | exact below_step hHeld.1 (by assumption) | exact below_step hHeld.1 (below_alloc _ _)))
                  refine take_to 0 84 #[true, false, false, false, false, false, false, false, false, false, false, false, false, false, false, false, false, false, false] (v := ?_) ops_3_23_0 rfl ops_3_23_ns (by kernel_rfl) (by kernel_rfl) (fun _ _ _ h => h) (by rfl) ?y0n (by assumption) ?_
                  case y0n =>
                    intro w hSw
                    try dsimp only at hSw
                    go_simp
                    try with_reducible rfl
                  simp only [List.set_cons_zero, List.set_cons_succ]
                  refine take_to 1 85 #[true, true, false, false, false, false, false, false, false, false, false, false, false, false, false, false, false, false, false] (v := ?_) ops_3_23_1 rfl ops_3_23_ns (by kernel_rfl) (by kernel_rfl) (fun _ _ _ h => h) (by rfl) ?y1n (by assumption) ?_
                  case y1n =>
                    intro w hSw
                    try dsimp only at hSw
                    go_simp
                    try with_reducible rfl
                  simp only [List.set_cons_zero, List.set_cons_succ]
                  refine take_to 2 86 #[true, true, true, false, false, false, false, false, false, false, false, false, false, false, false, false, false, false, false] (v := .bool false) ops_3_23_2 rfl ops_3_23_ns (by kernel_rfl) (by kernel_rfl) (fun _ _ _ h => h) (by rfl) ?y2n (by assumption) ?_
                  case y2n =>
                    intro w hSw
                    try dsimp only at hSw
                    go_simp
                    all_goals (first | rfl | omega | (simp; done) | (simp; omega) | trace_state)
                  simp only [List.set_cons_zero, List.set_cons_succ]
                  refine take_to 3 87 #[true, true, true, true, false, false, false, false, false, false, false, false, false, false, false, false, false, false, false] (v := ?_) ops_3_23_3 rfl ops_3_23_ns (by kernel_rfl) (by kernel_rfl) (fun _ _ _ h => h) (by rfl) ?y3n (by assumption) ?_
                  case y3n =>
                    intro w hSw
                    try dsimp only at hSw
                    go_simp
                    try with_reducible rfl
                  simp only [List.set_cons_zero, List.set_cons_succ]
                  refine skip_to 4 88 #[true, true, true, true, true, false, false, false, false, false, false, false, false, false, false, false, false, false, false] ops_3_23_4 rfl ops_3_23_ns (by kernel_rfl) (by kernel_rfl) (fun _ _ _ h => h) (by rfl) (by assumption) ?_
                  simp only [List.set_cons_zero, List.set_cons_succ]
                  refine skip_to 5 89 #[true, true, true, true, true, true, false, false, false, false, false, false, false, false, false, false, false, false, false] ops_3_23_5 rfl ops_3_23_ns (by kernel_rfl) (by kernel_rfl) (fun _ _ _ h => h) (by rfl) (by assumption) ?_
                  simp only [List.set_cons_zero, List.set_cons_succ]
                  refine skip_to 6 90 #[true, true, true, true, true, true, true, false, false, false, false, false, false, false, false, false, false, false, false] ops_3_23_6 rfl ops_3_23_ns (by kernel_rfl) (by kernel_rfl) (fun _ _ _ h => h) (by rfl) (by assumption) ?_
                  simp only [List.set_cons_zero, List.set_cons_succ]
                  refine skip_to 7 91 #[true, true, true, true, true, true, true, true, false, false, false, false, false, false, false, false, false, false, false] ops_3_23_7 rfl ops_3_23_ns (by kernel_rfl) (by kernel_rfl) (fun _ _ _ h => h) (by rfl) (by assumption) ?_
                  simp only [List.set_cons_zero, List.set_cons_succ]
                  refine skip_to 8 92 #[true, true, true, true, true, true, true, true, true, false, false, false, false, false, false, false, false, false, false] ops_3_23_8 rfl ops_3_23_ns (by kernel_rfl) (by kernel_rfl) (fun _ _ _ h => h) (by rfl) (by assumption) ?_
                  simp only [List.set_cons_zero, List.set_cons_succ]
                  refine skip_to 9 93 #[true, true, true, true, true, true, true, true, true, true, false, false, false, false, false, false, false, false, false] ops_3_23_9 rfl ops_3_23_ns (by kernel_rfl) (by kernel_rfl) (fun _ _ _ h => h) (by rfl) (by assumption) ?_
                  simp only [List.set_cons_zero, List.set_cons_succ]
                  refine skip_to 10 94 #[true, true, true, true, true, true, true, true, true, true, true, false, false, false, false, false, false, false, false] ops_3_23_10 rfl ops_3_23_ns (by kernel_rfl) (by kernel_rfl) (fun _ _ _ h => h) (by rfl) (by assumption) ?_
                  simp only [List.set_cons_zero, List.set_cons_succ]
                  refine skip_to 11 95 #[true, true, true, true, true, true, true, true, true, true, true, true, false, false, false, false, false, false, false] ops_3_23_11 rfl ops_3_23_ns (by kernel_rfl) (by kernel_rfl) (fun _ _ _ h => h) (by rfl) (by assumption) ?_
                  simp only [List.set_cons_zero, List.set_cons_succ]
                  refine skip_to 12 96 #[true, true, true, true, true, true, true, true, true, true, true, true, true, false, false, false, false, false, false] ops_3_23_12 rfl ops_3_23_ns (by kernel_rfl) (by kernel_rfl) (fun _ _ _ h => h) (by rfl) (by assumption) ?_
                  simp only [List.set_cons_zero, List.set_cons_succ]
                  refine skip_to 13 97 #[true, true, true, true, true, true, true, true, true, true, true, true, true, true, false, false, false, false, false] ops_3_23_13 rfl ops_3_23_ns (by kernel_rfl) (by kernel_rfl) (fun _ _ _ h => h) (by rfl) (by assumption) ?_
                  simp only [List.set_cons_zero, List.set_cons_succ]
                  refine take_to 14 98 #[true, true, true, true, true, true, true, true, true, true, true, true, true, true, true, false, false, false, false] (v := ?_) ops_3_23_14 rfl ops_3_23_ns (by kernel_rfl) (by kernel_rfl) (fun _ _ _ h => h) (by rfl) ?y14n (by assumption) ?_
                  case y14n =>
                    intro w hSw
                    try dsimp only at hSw
                    go_simp
                    try with_reducible rfl
                  simp only [List.set_cons_zero, List.set_cons_succ]
                  refine run_to 15 #[true, true, true, true, true, true, true, true, true, true, true, true, true, true, true, true, false, false, false] ops_3_23_15 (by kernel_rfl) (by kernel_rfl) (by rfl) (fun K hK => ?_)
                  go_simp
                  refine (when_calls _ _ _).mono ?_
                  rintro e w' ⟨rfl, rfl⟩
                  go_wp2_with fail
                  refine hK.out _ _ ?_ (fun hHeld => ?_)
                  · (exact HSk.out _ (by first | assumption | exact hHeld.1 | exact below_step hHeld.1 (by assumption) | exact below_step hHeld.1 (below_alloc _ _)))
                  clear hK K
                  try simp only [Act.put, List.setIfInBounds_toArray, List.set_cons_zero, List.set_cons_succ]
                  refine run_to 16 #[true, true, true, true, true, true, true, true, true, true, true, true, true, true, true, true, true, false, false] ops_3_23_16 (by kernel_rfl) (by kernel_rfl) (by rfl) (fun K hK => ?_)
                  go_simp
                  refine hK.out _ _ ?_ (fun hHeld => ?_)
                  · (exact HSk.out _ (by first | assumption | exact hHeld.1 | exact below_step hHeld.1 (by assumption) | exact below_step hHeld.1 (below_alloc _ _)))
                  clear hK K
                  try simp only [Act.put, List.setIfInBounds_toArray, List.set_cons_zero, List.set_cons_succ]
                  refine run_to 17 #[true, true, true, true, true, true, true, true, true, true, true, true, true, true, true, true, true, true, false] ops_3_23_17 (by kernel_rfl) (by kernel_rfl) (by rfl) (fun K hK => ?_)
                  go_simp
                  refine (errs_calls _ 0 2 [F2, 0] _ (by simp) (by exact nums2 _ _ _ _)).mono ?_
                  rintro e w' ⟨rfl, rfl⟩
                  rw [HN.out]
                  go_wp2_with fail
                  refine hK.out _ _ ?_ (fun hHeld => ?_)
                  · (exact HSk.out _ (by first | assumption | exact hHeld.1 | exact below_step hHeld.1 (by assumption) | exact below_step hHeld.1 (below_alloc _ _)))
                  clear hK K
                  try simp only [Act.put, List.setIfInBounds_toArray, List.set_cons_zero, List.set_cons_succ]
                  refine take_to 18 11 #[true, true, true, true, true, true, true, true, true, true, true, true, true, true, true, true, true, true, true] (v := ?_) ops_3_23_18 rfl ops_3_23_ns (by kernel_rfl) (by kernel_rfl) (fun _ _ _ h => h) (by rfl) ?y18n (by assumption) ?_
                  case y18n =>
                    intro w hSw
                    try dsimp only at hSw
                    go_simp
                    try with_reducible rfl
                  simp only [List.set_cons_zero, List.set_cons_succ]
                  refine wpAnyH_done (by kernel_rfl) ?_ _
                  go_wp2_with fail
                  go_meet
                  case rel => exact ⟨rfl, below_step Hbr.out hHeld.1⟩
                · obtain ⟨j, rfl⟩ : ∃ j, k = j + 1 := ⟨k - 1, by omega⟩
                  obtain ⟨p, hp⟩ : ∃ p, ls[j]? = some p := ⟨ls[j]'(by omega), List.getElem?_eq_getElem (by omega)⟩
                  obtain ⟨_, _, q1, _⟩ := Hcell.out j p hp
                  have Hq1 := Lib.hid (below_cell Hbr.out q1)
                  have HSk := Lib.hid (show ∀ w', Below wA.heap.size wA w' → (Below wA.heap.size wA w' ∧ w'.cell? ⟨X, 1, none⟩ = some (.int .i64 l.week) ∧ w'.cell? ⟨g, off + j * 3 + 1, none⟩ = some (.int .i64 p.week)) from fun w' hb => ⟨hb, below_cell hb Hx1.out, below_cell hb Hq1.out⟩)
                  have Hri := Lib.hid (fun h => wk_rise Hli.out (by simpa using hp) h)
                  have Hfa := Lib.hid (fun h => wk_fall (by omega) Hli.out (by simpa using hp) h)
                  have hj1 : (0 : Int) < ((j + 1 : Nat) : Int) := by omega
                  have hj2 : (0 : Int) ≤ (j : Int) := by omega
                  have hj3 : j < ls.length := by omega
                  have hjw : IntKind.i64.wrap (j : Int) = j := IntWalk.i64_in _ (by omega)
                  clear h0 hp q1
                  by_cases hq : l.week ≤ p.week
                  · have HN := Lib.hid (show firstE [F2, 7] = firstE [F, errsTo (wkF ls) (j + 1 + 1)] by rw [← Hst.out, Hfa.out hq])
                    show Code.wp _ (Code.region 23 ops_3_23 true) _ _ _
                    refine region_start 19 (fun w' => Below wA.heap.size wA w' ∧ w'.cell? ⟨X, 1, none⟩ = some (.int .i64 l.week) ∧ w'.cell? ⟨g, off + j * 3 + 1, none⟩ = some (.int .i64 p.week)) (by kernel_rfl) rfl ?_ (fun hHeld => ?_)
                    · (exact HSk.out _ (by first | assumption | exact hHeld.1 | exact below_step hHeld.1 (by assumption) | exact below_step hHeld.1 (below_alloc _ _)))
                    refine take_to 0 84 #[true, false, false, false, false, false, false, false, false, false, false, false, false, false, false, false, false, false, false] (v := ?_) ops_3_23_0 rfl ops_3_23_ns (by kernel_rfl) (by kernel_rfl) (fun _ _ _ h => h) (by rfl) ?y0y (by assumption) ?_
                    case y0y =>
                      intro w hSw
                      try dsimp only at hSw
                      go_simp
                      try with_reducible rfl
                    simp only [List.set_cons_zero, List.set_cons_succ]
                    refine take_to 1 85 #[true, true, false, false, false, false, false, false, false, false, false, false, false, false, false, false, false, false, false] (v := ?_) ops_3_23_1 rfl ops_3_23_ns (by kernel_rfl) (by kernel_rfl) (fun _ _ _ h => h) (by rfl) ?y1y (by assumption) ?_
                    case y1y =>
                      intro w hSw
                      try dsimp only at hSw
                      go_simp
                      try with_reducible rfl
                    simp only [List.set_cons_zero, List.set_cons_succ]
                    refine take_to 2 86 #[true, true, true, false, false, false, false, false, false, false, false, false, false, false, false, false, false, false, false] (v := .bool true) ops_3_23_2 rfl ops_3_23_ns (by kernel_rfl) (by kernel_rfl) (fun _ _ _ h => h) (by rfl) ?y2y (by assumption) ?_
                    case y2y =>
                      intro w hSw
                      try dsimp only at hSw
                      go_simp
                      all_goals (first | rfl | omega | (simp; done) | (simp; omega) | trace_state)
                    simp only [List.set_cons_zero, List.set_cons_succ]
                    refine take_to 3 87 #[true, true, true, true, false, false, false, false, false, false, false, false, false, false, false, false, false, false, false] (v := ?_) ops_3_23_3 rfl ops_3_23_ns (by kernel_rfl) (by kernel_rfl) (fun _ _ _ h => h) (by rfl) ?y3y (by assumption) ?_
                    case y3y =>
                      intro w hSw
                      try dsimp only at hSw
                      go_simp
                      try with_reducible rfl
                    simp only [List.set_cons_zero, List.set_cons_succ]
                    refine take_to 4 88 #[true, true, true, true, true, false, false, false, false, false, false, false, false, false, false, false, false, false, false] (v := ?_) ops_3_23_4 rfl ops_3_23_ns (by kernel_rfl) (by kernel_rfl) (fun _ _ _ h => h) (by rfl) ?y4y (by assumption) ?_
                    case y4y =>
                      intro w hSw
                      try dsimp only at hSw
                      go_simp
                      try with_reducible rfl
                    simp only [List.set_cons_zero, List.set_cons_succ]
                    refine take_to 5 89 #[true, true, true, true, true, true, false, false, false, false, false, false, false, false, false, false, false, false, false] (v := ?_) ops_3_23_5 rfl ops_3_23_ns (by kernel_rfl) (by kernel_rfl) (fun _ _ _ h => h) (by rfl) ?y5y (by assumption) ?_
                    case y5y =>
                      intro w hSw
                      try dsimp only at hSw
                      go_simp
                      try with_reducible rfl
                    simp only [List.set_cons_zero, List.set_cons_succ]
                    refine take_to 6 90 #[true, true, true, true, true, true, true, false, false, false, false, false, false, false, false, false, false, false, false] (v := ?_) ops_3_23_6 rfl ops_3_23_ns (by kernel_rfl) (by kernel_rfl) (fun _ _ _ h => h) (by rfl) ?y6y (by assumption) ?_
                    case y6y =>
                      intro w hSw
                      try dsimp only at hSw
                      go_simp
                      try with_reducible rfl
                    simp only [List.set_cons_zero, List.set_cons_succ]
                    refine take_to 7 91 #[true, true, true, true, true, true, true, true, false, false, false, false, false, false, false, false, false, false, false] (v := ?_) ops_3_23_7 rfl ops_3_23_ns (by kernel_rfl) (by kernel_rfl) (fun _ _ _ h => h) (by rfl) ?y7y (by assumption) ?_
                    case y7y =>
                      intro w hSw
                      try dsimp only at hSw
                      go_simp
                      try with_reducible rfl
                    simp only [List.set_cons_zero, List.set_cons_succ]
                    refine take_to 8 92 #[true, true, true, true, true, true, true, true, true, false, false, false, false, false, false, false, false, false, false] (v := .int .i64 (j : Int)) ops_3_23_8 rfl ops_3_23_ns (by kernel_rfl) (by kernel_rfl) (fun _ _ _ h => h) (by rfl) ?y8y (by assumption) ?_
                    case y8y =>
                      intro w hSw
                      try dsimp only at hSw
                      go_simp
                      all_goals (first | rfl | omega | (simp; done) | (simp; omega) | trace_state)
                    simp only [List.set_cons_zero, List.set_cons_succ]
                    refine take_to 9 93 #[true, true, true, true, true, true, true, true, true, true, false, false, false, false, false, false, false, false, false] (v := .int .i64 (j : Int)) ops_3_23_9 rfl ops_3_23_ns (by kernel_rfl) (by kernel_rfl) (fun _ _ _ h => h) (by rfl) ?y9y (by assumption) ?_
                    case y9y =>
                      intro w hSw
                      try dsimp only at hSw
                      go_simp
                      all_goals (first | rfl | omega | (simp; done) | (simp; omega) | trace_state)
                    simp only [List.set_cons_zero, List.set_cons_succ]
                    refine take_to 10 94 #[true, true, true, true, true, true, true, true, true, true, true, false, false, false, false, false, false, false, false] (v := ?_) ops_3_23_10 rfl ops_3_23_ns (by kernel_rfl) (by kernel_rfl) (fun _ _ _ h => h) (by rfl) ?y10y (by assumption) ?_
                    case y10y =>
                      intro w hSw
                      try dsimp only at hSw
                      go_simp
                      try with_reducible rfl
                    simp only [List.set_cons_zero, List.set_cons_succ]
                    refine take_to 11 95 #[true, true, true, true, true, true, true, true, true, true, true, true, false, false, false, false, false, false, false] (v := ?_) ops_3_23_11 rfl ops_3_23_ns (by kernel_rfl) (by kernel_rfl) (fun _ _ _ h => h) (by rfl) ?y11y (by assumption) ?_
                    case y11y =>
                      intro w hSw
                      try dsimp only at hSw
                      go_simp
                      try with_reducible rfl
                    simp only [List.set_cons_zero, List.set_cons_succ]
                    refine take_to 12 96 #[true, true, true, true, true, true, true, true, true, true, true, true, true, false, false, false, false, false, false] (v := ?_) ops_3_23_12 rfl ops_3_23_ns (by kernel_rfl) (by kernel_rfl) (fun _ _ _ h => h) (by rfl) ?y12y (by assumption) ?_
                    case y12y =>
                      intro w hSw
                      try dsimp only at hSw
                      go_simp
                      try with_reducible rfl
                    simp only [List.set_cons_zero, List.set_cons_succ]
                    refine take_to 13 97 #[true, true, true, true, true, true, true, true, true, true, true, true, true, true, false, false, false, false, false] (v := .bool true) ops_3_23_13 rfl ops_3_23_ns (by kernel_rfl) (by kernel_rfl) (fun _ _ _ h => h) (by rfl) ?y13y (by assumption) ?_
                    case y13y =>
                      intro w hSw
                      try dsimp only at hSw
                      go_simp
                      all_goals (first | rfl | omega | (simp; done) | (simp; omega) | trace_state)
                    simp only [List.set_cons_zero, List.set_cons_succ]
                    refine take_to 14 98 #[true, true, true, true, true, true, true, true, true, true, true, true, true, true, true, false, false, false, false] (v := ?_) ops_3_23_14 rfl ops_3_23_ns (by kernel_rfl) (by kernel_rfl) (fun _ _ _ h => h) (by rfl) ?y14y (by assumption) ?_
                    case y14y =>
                      intro w hSw
                      try dsimp only at hSw
                      go_simp
                      try with_reducible rfl
                    simp only [List.set_cons_zero, List.set_cons_succ]
                    refine run_to 15 #[true, true, true, true, true, true, true, true, true, true, true, true, true, true, true, true, false, false, false] ops_3_23_15 (by kernel_rfl) (by kernel_rfl) (by rfl) (fun K hK => ?_)
                    go_simp
                    refine (when_calls _ _ _).mono ?_
                    rintro e w' ⟨rfl, rfl⟩
                    go_wp2_with fail
                    refine hK.out _ _ ?_ (fun hHeld => ?_)
                    · (exact HSk.out _ (by first | assumption | exact hHeld.1 | exact below_step hHeld.1 (by assumption) | exact below_step hHeld.1 (below_alloc _ _)))
                    clear hK K
                    try simp only [Act.put, List.setIfInBounds_toArray, List.set_cons_zero, List.set_cons_succ]
                    refine run_to 16 #[true, true, true, true, true, true, true, true, true, true, true, true, true, true, true, true, true, false, false] ops_3_23_16 (by kernel_rfl) (by kernel_rfl) (by rfl) (fun K hK => ?_)
                    go_simp
                    refine hK.out _ _ ?_ (fun hHeld => ?_)
                    · (exact HSk.out _ (by first | assumption | exact hHeld.1 | exact below_step hHeld.1 (by assumption) | exact below_step hHeld.1 (below_alloc _ _)))
                    clear hK K
                    try simp only [Act.put, List.setIfInBounds_toArray, List.set_cons_zero, List.set_cons_succ]
                    refine run_to 17 #[true, true, true, true, true, true, true, true, true, true, true, true, true, true, true, true, true, true, false] ops_3_23_17 (by kernel_rfl) (by kernel_rfl) (by rfl) (fun K hK => ?_)
                    go_simp
                    refine (errs_calls _ 0 2 [F2, 7] _ (by simp) (by exact nums2 _ _ _ _)).mono ?_
                    rintro e w' ⟨rfl, rfl⟩
                    rw [HN.out]
                    go_wp2_with fail
                    refine hK.out _ _ ?_ (fun hHeld => ?_)
                    · (exact HSk.out _ (by first | assumption | exact hHeld.1 | exact below_step hHeld.1 (by assumption) | exact below_step hHeld.1 (below_alloc _ _)))
                    clear hK K
                    try simp only [Act.put, List.setIfInBounds_toArray, List.set_cons_zero, List.set_cons_succ]
                    refine take_to 18 11 #[true, true, true, true, true, true, true, true, true, true, true, true, true, true, true, true, true, true, true] (v := ?_) ops_3_23_18 rfl ops_3_23_ns (by kernel_rfl) (by kernel_rfl) (fun _ _ _ h => h) (by rfl) ?y18y (by assumption) ?_
                    case y18y =>
                      intro w hSw
                      try dsimp only at hSw
                      go_simp
                      try with_reducible rfl
                    simp only [List.set_cons_zero, List.set_cons_succ]
                    refine wpAnyH_done (by kernel_rfl) ?_ _
                    go_wp2_with fail
                    go_meet
                    case rel => exact ⟨rfl, below_step Hbr.out hHeld.1⟩
                  · have HN := Lib.hid (show firstE [F2, 0] = firstE [F, errsTo (wkF ls) (j + 1 + 1)] by rw [← Hst.out, Hri.out (by omega)])
                    show Code.wp _ (Code.region 23 ops_3_23 true) _ _ _
                    refine region_start 19 (fun w' => Below wA.heap.size wA w' ∧ w'.cell? ⟨X, 1, none⟩ = some (.int .i64 l.week) ∧ w'.cell? ⟨g, off + j * 3 + 1, none⟩ = some (.int .i64 p.week)) (by kernel_rfl) rfl ?_ (fun hHeld => ?_)
                    · (exact HSk.out _ (by first | assumption | exact hHeld.1 | exact below_step hHeld.1 (by assumption) | exact below_step hHeld.1 (below_alloc _ _)))
                    refine take_to 0 84 #[true, false, false, false, false, false, false, false, false, false, false, false, false, false, false, false, false, false, false] (v := ?_) ops_3_23_0 rfl ops_3_23_ns (by kernel_rfl) (by kernel_rfl) (fun _ _ _ h => h) (by rfl) ?y0z (by assumption) ?_
                    case y0z =>
                      intro w hSw
                      try dsimp only at hSw
                      go_simp
                      try with_reducible rfl
                    simp only [List.set_cons_zero, List.set_cons_succ]
                    refine take_to 1 85 #[true, true, false, false, false, false, false, false, false, false, false, false, false, false, false, false, false, false, false] (v := ?_) ops_3_23_1 rfl ops_3_23_ns (by kernel_rfl) (by kernel_rfl) (fun _ _ _ h => h) (by rfl) ?y1z (by assumption) ?_
                    case y1z =>
                      intro w hSw
                      try dsimp only at hSw
                      go_simp
                      try with_reducible rfl
                    simp only [List.set_cons_zero, List.set_cons_succ]
                    refine take_to 2 86 #[true, true, true, false, false, false, false, false, false, false, false, false, false, false, false, false, false, false, false] (v := .bool true) ops_3_23_2 rfl ops_3_23_ns (by kernel_rfl) (by kernel_rfl) (fun _ _ _ h => h) (by rfl) ?y2z (by assumption) ?_
                    case y2z =>
                      intro w hSw
                      try dsimp only at hSw
                      go_simp
                      all_goals (first | rfl | omega | (simp; done) | (simp; omega) | trace_state)
                    simp only [List.set_cons_zero, List.set_cons_succ]
                    refine take_to 3 87 #[true, true, true, true, false, false, false, false, false, false, false, false, false, false, false, false, false, false, false] (v := ?_) ops_3_23_3 rfl ops_3_23_ns (by kernel_rfl) (by kernel_rfl) (fun _ _ _ h => h) (by rfl) ?y3z (by assumption) ?_
                    case y3z =>
                      intro w hSw
                      try dsimp only at hSw
                      go_simp
                      try with_reducible rfl
                    simp only [List.set_cons_zero, List.set_cons_succ]
                    refine take_to 4 88 #[true, true, true, true, true, false, false, false, false, false, false, false, false, false, false, false, false, false, false] (v := ?_) ops_3_23_4 rfl ops_3_23_ns (by kernel_rfl) (by kernel_rfl) (fun _ _ _ h => h) (by rfl) ?y4z (by assumption) ?_
                    case y4z =>
                      intro w hSw
                      try dsimp only at hSw
                      go_simp
                      try with_reducible rfl
                    simp only [List.set_cons_zero, List.set_cons_succ]
                    refine take_to 5 89 #[true, true, true, true, true, true, false, false, false, false, false, false, false, false, false, false, false, false, false] (v := ?_) ops_3_23_5 rfl ops_3_23_ns (by kernel_rfl) (by kernel_rfl) (fun _ _ _ h => h) (by rfl) ?y5z (by assumption) ?_
                    case y5z =>
                      intro w hSw
                      try dsimp only at hSw
                      go_simp
                      try with_reducible rfl
                    simp only [List.set_cons_zero, List.set_cons_succ]
                    refine take_to 6 90 #[true, true, true, true, true, true, true, false, false, false, false, false, false, false, false, false, false, false, false] (v := ?_) ops_3_23_6 rfl ops_3_23_ns (by kernel_rfl) (by kernel_rfl) (fun _ _ _ h => h) (by rfl) ?y6z (by assumption) ?_
                    case y6z =>
                      intro w hSw
                      try dsimp only at hSw
                      go_simp
                      try with_reducible rfl
                    simp only [List.set_cons_zero, List.set_cons_succ]
                    refine take_to 7 91 #[true, true, true, true, true, true, true, true, false, false, false, false, false, false, false, false, false, false, false] (v := ?_) ops_3_23_7 rfl ops_3_23_ns (by kernel_rfl) (by kernel_rfl) (fun _ _ _ h => h) (by rfl) ?y7z (by assumption) ?_
                    case y7z =>
                      intro w hSw
                      try dsimp only at hSw
                      go_simp
                      try with_reducible rfl
                    simp only [List.set_cons_zero, List.set_cons_succ]
                    refine take_to 8 92 #[true, true, true, true, true, true, true, true, true, false, false, false, false, false, false, false, false, false, false] (v := .int .i64 (j : Int)) ops_3_23_8 rfl ops_3_23_ns (by kernel_rfl) (by kernel_rfl) (fun _ _ _ h => h) (by rfl) ?y8z (by assumption) ?_
                    case y8z =>
                      intro w hSw
                      try dsimp only at hSw
                      go_simp
                      all_goals (first | rfl | omega | (simp; done) | (simp; omega) | trace_state)
                    simp only [List.set_cons_zero, List.set_cons_succ]
                    refine take_to 9 93 #[true, true, true, true, true, true, true, true, true, true, false, false, false, false, false, false, false, false, false] (v := .int .i64 (j : Int)) ops_3_23_9 rfl ops_3_23_ns (by kernel_rfl) (by kernel_rfl) (fun _ _ _ h => h) (by rfl) ?y9z (by assumption) ?_
                    case y9z =>
                      intro w hSw
                      try dsimp only at hSw
                      go_simp
                      all_goals (first | rfl | omega | (simp; done) | (simp; omega) | trace_state)
                    simp only [List.set_cons_zero, List.set_cons_succ]
                    refine take_to 10 94 #[true, true, true, true, true, true, true, true, true, true, true, false, false, false, false, false, false, false, false] (v := ?_) ops_3_23_10 rfl ops_3_23_ns (by kernel_rfl) (by kernel_rfl) (fun _ _ _ h => h) (by rfl) ?y10z (by assumption) ?_
                    case y10z =>
                      intro w hSw
                      try dsimp only at hSw
                      go_simp
                      try with_reducible rfl
                    simp only [List.set_cons_zero, List.set_cons_succ]
                    refine take_to 11 95 #[true, true, true, true, true, true, true, true, true, true, true, true, false, false, false, false, false, false, false] (v := ?_) ops_3_23_11 rfl ops_3_23_ns (by kernel_rfl) (by kernel_rfl) (fun _ _ _ h => h) (by rfl) ?y11z (by assumption) ?_
                    case y11z =>
                      intro w hSw
                      try dsimp only at hSw
                      go_simp
                      try with_reducible rfl
                    simp only [List.set_cons_zero, List.set_cons_succ]
                    refine take_to 12 96 #[true, true, true, true, true, true, true, true, true, true, true, true, true, false, false, false, false, false, false] (v := ?_) ops_3_23_12 rfl ops_3_23_ns (by kernel_rfl) (by kernel_rfl) (fun _ _ _ h => h) (by rfl) ?y12z (by assumption) ?_
                    case y12z =>
                      intro w hSw
                      try dsimp only at hSw
                      go_simp
                      try with_reducible rfl
                    simp only [List.set_cons_zero, List.set_cons_succ]
                    refine take_to 13 97 #[true, true, true, true, true, true, true, true, true, true, true, true, true, true, false, false, false, false, false] (v := .bool false) ops_3_23_13 rfl ops_3_23_ns (by kernel_rfl) (by kernel_rfl) (fun _ _ _ h => h) (by rfl) ?y13z (by assumption) ?_
                    case y13z =>
                      intro w hSw
                      try dsimp only at hSw
                      go_simp
                      all_goals (first | rfl | omega | (simp; done) | (simp; omega) | trace_state)
                    simp only [List.set_cons_zero, List.set_cons_succ]
                    refine take_to 14 98 #[true, true, true, true, true, true, true, true, true, true, true, true, true, true, true, false, false, false, false] (v := ?_) ops_3_23_14 rfl ops_3_23_ns (by kernel_rfl) (by kernel_rfl) (fun _ _ _ h => h) (by rfl) ?y14z (by assumption) ?_
                    case y14z =>
                      intro w hSw
                      try dsimp only at hSw
                      go_simp
                      try with_reducible rfl
                    simp only [List.set_cons_zero, List.set_cons_succ]
                    refine run_to 15 #[true, true, true, true, true, true, true, true, true, true, true, true, true, true, true, true, false, false, false] ops_3_23_15 (by kernel_rfl) (by kernel_rfl) (by rfl) (fun K hK => ?_)
                    go_simp
                    refine (when_calls _ _ _).mono ?_
                    rintro e w' ⟨rfl, rfl⟩
                    go_wp2_with fail
                    refine hK.out _ _ ?_ (fun hHeld => ?_)
                    · (exact HSk.out _ (by first | assumption | exact hHeld.1 | exact below_step hHeld.1 (by assumption) | exact below_step hHeld.1 (below_alloc _ _)))
                    clear hK K
                    try simp only [Act.put, List.setIfInBounds_toArray, List.set_cons_zero, List.set_cons_succ]
                    refine run_to 16 #[true, true, true, true, true, true, true, true, true, true, true, true, true, true, true, true, true, false, false] ops_3_23_16 (by kernel_rfl) (by kernel_rfl) (by rfl) (fun K hK => ?_)
                    go_simp
                    refine hK.out _ _ ?_ (fun hHeld => ?_)
                    · (exact HSk.out _ (by first | assumption | exact hHeld.1 | exact below_step hHeld.1 (by assumption) | exact below_step hHeld.1 (below_alloc _ _)))
                    clear hK K
                    try simp only [Act.put, List.setIfInBounds_toArray, List.set_cons_zero, List.set_cons_succ]
                    refine run_to 17 #[true, true, true, true, true, true, true, true, true, true, true, true, true, true, true, true, true, true, false] ops_3_23_17 (by kernel_rfl) (by kernel_rfl) (by rfl) (fun K hK => ?_)
                    go_simp
                    refine (errs_calls _ 0 2 [F2, 0] _ (by simp) (by exact nums2 _ _ _ _)).mono ?_
                    rintro e w' ⟨rfl, rfl⟩
                    rw [HN.out]
                    go_wp2_with fail
                    refine hK.out _ _ ?_ (fun hHeld => ?_)
                    · (exact HSk.out _ (by first | assumption | exact hHeld.1 | exact below_step hHeld.1 (by assumption) | exact below_step hHeld.1 (below_alloc _ _)))
                    clear hK K
                    try simp only [Act.put, List.setIfInBounds_toArray, List.set_cons_zero, List.set_cons_succ]
                    refine take_to 18 11 #[true, true, true, true, true, true, true, true, true, true, true, true, true, true, true, true, true, true, true] (v := ?_) ops_3_23_18 rfl ops_3_23_ns (by kernel_rfl) (by kernel_rfl) (fun _ _ _ h => h) (by rfl) ?y18z (by assumption) ?_
                    case y18z =>
                      intro w hSw
                      try dsimp only at hSw
                      go_simp
                      try with_reducible rfl
                    simp only [List.set_cons_zero, List.set_cons_succ]
                    refine wpAnyH_done (by kernel_rfl) ?_ _
                    go_wp2_with fail
                    go_meet
                    case rel => exact ⟨rfl, below_step Hbr.out hHeld.1⟩
              case rest =>
                obtain ⟨rfl, hbc⟩ := hcut
                have HbC := Lib.hid (below_step Hb.out hbc)
                clear hbc Hst
                go_wp2_with fail
                go_roundw
                case rel => exact ⟨k + 1, by omega, by go_num, rfl, HbC.out⟩
                case measure => simp [intOf]; omega
            · obtain rfl : k = ls.length := by omega
              clear Hst
              rw [HF2.out] at HTF
              clear HF2 HF1
              obtain ⟨y0, y1, -, -⟩ := HS.out wr hb
              have Hb := Lib.hid hb
              clear hb
              go_upto_region 25 with fail
              go_cut [11] from 103 to 121 (fun f wc => f = .int .i64 E ∧ Below W9.heap.size W9 wc)
              case first =>
                by_cases c1 : a < 1
                · have HW := Lib.hid (show firstE [F2, 1] = E by rw [← HTF.out, win_a c1])
                  go_wp2_with fail
                  refine (when_calls _ _ _).mono ?_
                  rintro e w' ⟨rfl, rfl⟩
                  go_wp2_with fail
                  refine (errs_calls _ 0 2 [F2, 1] _ (by simp) (nums2 _ _ _ _)).mono ?_
                  rintro e w' ⟨rfl, rfl⟩
                  rw [HW.out]
                  have hbw := below_step Hb.out (below_alloc wr (.cells #[.int .i64 F2, .int .i64 1] 42))
                  go_wp2_with fail
                  go_meet
                  case rel => exact ⟨rfl, hbw⟩
                · have c1' : 1 ≤ a := by omega
                  by_cases c2 : b < a
                  · have HW := Lib.hid (show firstE [F2, 1] = E by rw [← HTF.out, win_ab c2])
                    clear c1
                    go_wp2_with fail
                    refine (when_calls _ _ _).mono ?_
                    rintro e w' ⟨rfl, rfl⟩
                    go_wp2_with fail
                    refine (errs_calls _ 0 2 [F2, 1] _ (by simp) (nums2 _ _ _ _)).mono ?_
                    rintro e w' ⟨rfl, rfl⟩
                    rw [HW.out]
                    have hbw := below_step Hb.out (below_alloc wr (.cells #[.int .i64 F2, .int .i64 1] 42))
                    go_wp2_with fail
                    go_meet
                    case rel => exact ⟨rfl, hbw⟩
                  · have c2' : a ≤ b := by omega
                    by_cases c3 : 61 < b
                    · have HW := Lib.hid (show firstE [F2, 1] = E by rw [← HTF.out, win_b c3])
                      clear c1 c2
                      go_wp2_with fail
                      refine (when_calls _ _ _).mono ?_
                      rintro e w' ⟨rfl, rfl⟩
                      go_wp2_with fail
                      refine (errs_calls _ 0 2 [F2, 1] _ (by simp) (nums2 _ _ _ _)).mono ?_
                      rintro e w' ⟨rfl, rfl⟩
                      rw [HW.out]
                      have hbw := below_step Hb.out (below_alloc wr (.cells #[.int .i64 F2, .int .i64 1] 42))
                      go_wp2_with fail
                      go_meet
                      case rel => exact ⟨rfl, hbw⟩
                    · have HW := Lib.hid (show firstE [F2, 0] = E by rw [← HTF.out, win_ok c1' c2' (by omega)])
                      have c3' : b ≤ 61 := by omega
                      clear c1 c2 c3
                      go_wp2_with fail
                      refine (when_calls _ _ _).mono ?_
                      rintro e w' ⟨rfl, rfl⟩
                      go_wp2_with fail
                      refine (errs_calls _ 0 2 [F2, 0] _ (by simp) (nums2 _ _ _ _)).mono ?_
                      rintro e w' ⟨rfl, rfl⟩
                      rw [HW.out]
                      have hbw := below_step Hb.out (below_alloc wr (.cells #[.int .i64 F2, .int .i64 0] 42))
                      go_wp2_with fail
                      go_meet
                      case rel => exact ⟨rfl, hbw⟩
              case rest =>
                obtain ⟨rfl, hb2⟩ := hcut
                clear y0 y1 HTF Hb
                go_upto_if 124 with fail
                obtain ⟨V, hV⟩ : ∃ V, V = wc.alloc (.cells #[.int .i64 0, .int .i64 0] 41) := ⟨_, rfl⟩
                obtain ⟨H, hH⟩ : ∃ H, H = wc.heap.size := ⟨_, rfl⟩
                have hx : V.heap[H]? = some (.cells #[.int .i64 0, .int .i64 0] 41 (0, 0)) := by rw [hV, hH]; exact heap_alloc_new wc _
                have hbV : Below W9.heap.size W9 V := by rw [hV]; exact below_step hb2 (below_alloc wc _)
                have hHW : W9.heap.size ≤ H := by rw [hH]; exact hb2.size
                rw [← hV, ← hH]
                have Hx := Lib.hid hx
                have HbV := Lib.hid hbV
                clear hV hH hb2 hx hbV
                go_cut [] from 124 to 129 (fun wd => wd.cell? ⟨H, 0, none⟩ = some (.int .i64 r1) ∧ wd.cell? ⟨H, 1, none⟩ = some (.int .i64 r2) ∧ Below W9.heap.size W9 wd)
                case first =>
                  by_cases hz : E = 0
                  · have e1 : (E == 0) = true := by simp [hz]
                    have HT := Lib.hid (totalOf_calls lo1 lo2 lo3 _ _ _ rs ks ls a b V (by rw [← HE.out, hz]) (HR9.out V HbV.out) (HK9.out V HbV.out) (HL9.out V HbV.out))
                    rw [HR.out] at HT
                    unfold frV at HT
                    obtain ⟨y0, y1, -, -⟩ := HS.out V HbV.out
                    clear hz
                    go_wp2_with fail
                    refine HT.out.mono ?_
                    rintro e w20 ⟨rfl, hb20⟩
                    have hx20 := cells_later Hx.out hb20
                    have f0 := free_of hx20 0
                    have f1 := free_of hx20 1
                    have g0 := cell_at hx20 0 rfl
                    have g1 := cell_at hx20 1 rfl
                    have Hb20 := Lib.hid (below_step HbV.out hb20)
                    clear hx20 hb20 y0 y1 HT
                    go_wp2_with fail
                    go_meet
                    case rel => exact ⟨by go_simp, by go_simp, (Hb20.out.setCell (p := ⟨H, 0, none⟩) hHW _).setCell (p := ⟨H, 1, none⟩) hHW _⟩
                  · have e1 : (E == 0) = false := by simp [hz]
                    have h2 : totF rs ks ls a b = (0, 0) := by unfold totF; rw [← HE.out, if_neg hz]
                    rw [HR.out] at h2
                    simp only [Prod.mk.injEq] at h2
                    obtain ⟨rfl, rfl⟩ := h2
                    clear hz
                    go_wp2_with fail
                    go_meet
                    case rel => exact ⟨cell_at Hx.out 0 rfl, cell_at Hx.out 1 rfl, HbV.out⟩
                case rest =>
                  obtain ⟨h0, h1, hb3⟩ := hcut
                  obtain ⟨-, -, z0, z1⟩ := HS.out _ hb3
                  have Hb3 := Lib.hid (below_step HbW.out hb3)
                  clear hb3
                  go_wp2_with fail
                  refine (scored_calls _).mono ?_
                  rintro e w21 ⟨rfl, hb21⟩
                  have hb22 := below_step Hb3.out hb21
                  clear hb21 h0 h1 z0 z1
                  go_wp2_with fail
                  go_ret
                  exact ⟨rfl, hb22⟩
end Go.Proofs.Ytfcdbjdomfaffaa
