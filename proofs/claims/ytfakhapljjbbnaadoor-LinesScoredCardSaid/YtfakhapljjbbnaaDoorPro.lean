/- The reference's PartsOf. -/
import Derived.Test.YtfakhapljjbbnaaDoorSrc
import Derived.Test.YtfakhapljjbbnaaDoorFrt
import Derived.Test.YtfakhapljjbbnaaDoorPrs
import Derived.Test.YtfakhapljjbbnaaDoorApw
import Derived.Test.YtfakhapljjbbnaaDoorSrd
namespace Go.Proofs.YtfakhapljjbbnaaDoor
open Go.RowKit

theorem info_pr : (Tryd.prog.info? 51).map (fun i => (i.zero, i.size, i.bytes)) = some (some (.agg #[.string ⟨#[]⟩, .string ⟨#[]⟩]), 2, 32) := by kernel_rfl
/-- What each rule gives, written: of those that give something. -/
def partR (ks : List ByteArray) (ts : List TD) (r : RD) : List PrD := if worthR ks ts r = 0 then [] else [⟨r.key, frS (lowF (worthR ks ts r) 100)⟩]
def partsR (ks : List ByteArray) (ts : List TD) (rs : List RD) : List PrD := (rs.map (partR ks ts)).flatten
theorem parts_take {ks : List ByteArray} {ts : List TD} {rs : List RD} {k : Nat} {r : RD} (h : rs[k]? = some r) : partsR ks ts (rs.take (k + 1)) = partsR ks ts (rs.take k) ++ partR ks ts r := by
  unfold partsR
  rw [List.take_add_one, h]
  simp
theorem parts_len (ks : List ByteArray) (ts : List TD) (rs : List RD) : (partsR ks ts rs).length ≤ rs.length := by
  unfold partsR
  induction rs with
  | nil => simp
  | cons r rs ih =>
    have h1 : (partR ks ts r).length ≤ 1 := by unfold partR; split <;> simp
    simp only [List.map_cons, List.flatten_cons, List.length_append, List.length_cons]
    omega
theorem hun64 {d : Int} (h : 0 < d ∧ d ≤ 100) : Int64 d := by unfold Int64; omega
def ops_15_7 : Array Go.Oper := #[
  { dst := some 23, op := Go.Op.move (Go.Operand.tmp 7), type := 40, pos := "scores.go:132", after := #[], guard := none },
  { dst := some 24, op := Go.Op.fieldAddr 57 (Go.Operand.tmp 9) 0, type := 0, pos := "scores.go:132", after := #[], guard := none },
  { dst := some 25, op := Go.Op.load 9 (Go.Operand.tmp 24), type := 9, pos := "scores.go:132", after := #[{ on := 1, ground := Go.Ground.data }], guard := none },
  { dst := some 26, op := Go.Op.move (Go.Operand.tmp 10), type := 3, pos := "scores.go:132", after := #[], guard := none },
  { dst := some 27, op := Go.Op.call { callee := Go.Callee.value (Go.Operand.func 40), args := #[Go.Operand.tmp 26], argTypes := #[3] }, type := 36, pos := "scores.go:132", after := #[{ on := 3, ground := Go.Ground.data }], guard := none },
  { dst := some 28, op := Go.Op.call { callee := Go.Callee.value (Go.Operand.func 41), args := #[Go.Operand.tmp 27], argTypes := #[36] }, type := 9, pos := "scores.go:132", after := #[{ on := 4, ground := Go.Ground.data }, { on := 4, ground := Go.Ground.chain }], guard := none },
  { dst := some 29, op := Go.Op.build 51 #[(0, Go.Operand.tmp 25), (1, Go.Operand.tmp 28)], type := 51, pos := "scores.go:132", after := #[{ on := 2, ground := Go.Ground.data }, { on := 5, ground := Go.Ground.data }], guard := none },
  { dst := some 30, op := Go.Op.buildSlice 40 1 #[(0, Go.Operand.tmp 29)], type := 40, pos := "scores.go:132", after := #[{ on := 6, ground := Go.Ground.data }], guard := none },
  { dst := some 31, op := Go.Op.call { callee := Go.Callee.builtin Go.Builtin.append, args := #[Go.Operand.tmp 23, Go.Operand.tmp 30], argTypes := #[40, 40] }, type := 40, pos := "scores.go:132", after := #[{ on := 0, ground := Go.Ground.data }, { on := 7, ground := Go.Ground.data }, { on := 5, ground := Go.Ground.chain }], guard := none },
  { dst := some 7, op := Go.Op.assign (Go.Operand.tmp 31), type := 40, pos := "scores.go:132", after := #[{ on := 8, ground := Go.Ground.data }, { on := 8, ground := Go.Ground.chain }, { on := 0, ground := Go.Ground.phase }, { on := 1, ground := Go.Ground.phase }, { on := 2, ground := Go.Ground.phase }, { on := 3, ground := Go.Ground.phase }, { on := 4, ground := Go.Ground.phase }, { on := 5, ground := Go.Ground.phase }, { on := 6, ground := Go.Ground.phase }, { on := 7, ground := Go.Ground.phase }, { on := 8, ground := Go.Ground.phase }], guard := none }]
theorem ops_15_7_0 : ops_15_7[0]? = some ({ dst := some 23, op := Go.Op.move (Go.Operand.tmp 7), type := 40, pos := "scores.go:132", after := #[], guard := none } : Go.Oper) := rfl
theorem ops_15_7_1 : ops_15_7[1]? = some ({ dst := some 24, op := Go.Op.fieldAddr 57 (Go.Operand.tmp 9) 0, type := 0, pos := "scores.go:132", after := #[], guard := none } : Go.Oper) := rfl
theorem ops_15_7_2 : ops_15_7[2]? = some ({ dst := some 25, op := Go.Op.load 9 (Go.Operand.tmp 24), type := 9, pos := "scores.go:132", after := #[{ on := 1, ground := Go.Ground.data }], guard := none } : Go.Oper) := rfl
theorem ops_15_7_3 : ops_15_7[3]? = some ({ dst := some 26, op := Go.Op.move (Go.Operand.tmp 10), type := 3, pos := "scores.go:132", after := #[], guard := none } : Go.Oper) := rfl
theorem ops_15_7_4 : ops_15_7[4]? = some ({ dst := some 27, op := Go.Op.call { callee := Go.Callee.value (Go.Operand.func 40), args := #[Go.Operand.tmp 26], argTypes := #[3] }, type := 36, pos := "scores.go:132", after := #[{ on := 3, ground := Go.Ground.data }], guard := none } : Go.Oper) := rfl
theorem ops_15_7_5 : ops_15_7[5]? = some ({ dst := some 28, op := Go.Op.call { callee := Go.Callee.value (Go.Operand.func 41), args := #[Go.Operand.tmp 27], argTypes := #[36] }, type := 9, pos := "scores.go:132", after := #[{ on := 4, ground := Go.Ground.data }, { on := 4, ground := Go.Ground.chain }], guard := none } : Go.Oper) := rfl
theorem ops_15_7_6 : ops_15_7[6]? = some ({ dst := some 29, op := Go.Op.build 51 #[(0, Go.Operand.tmp 25), (1, Go.Operand.tmp 28)], type := 51, pos := "scores.go:132", after := #[{ on := 2, ground := Go.Ground.data }, { on := 5, ground := Go.Ground.data }], guard := none } : Go.Oper) := rfl
theorem ops_15_7_7 : ops_15_7[7]? = some ({ dst := some 30, op := Go.Op.buildSlice 40 1 #[(0, Go.Operand.tmp 29)], type := 40, pos := "scores.go:132", after := #[{ on := 6, ground := Go.Ground.data }], guard := none } : Go.Oper) := rfl
theorem ops_15_7_8 : ops_15_7[8]? = some ({ dst := some 31, op := Go.Op.call { callee := Go.Callee.builtin Go.Builtin.append, args := #[Go.Operand.tmp 23, Go.Operand.tmp 30], argTypes := #[40, 40] }, type := 40, pos := "scores.go:132", after := #[{ on := 0, ground := Go.Ground.data }, { on := 7, ground := Go.Ground.data }, { on := 5, ground := Go.Ground.chain }], guard := none } : Go.Oper) := rfl
theorem ops_15_7_9 : ops_15_7[9]? = some ({ dst := some 7, op := Go.Op.assign (Go.Operand.tmp 31), type := 40, pos := "scores.go:132", after := #[{ on := 8, ground := Go.Ground.data }, { on := 8, ground := Go.Ground.chain }, { on := 0, ground := Go.Ground.phase }, { on := 1, ground := Go.Ground.phase }, { on := 2, ground := Go.Ground.phase }, { on := 3, ground := Go.Ground.phase }, { on := 4, ground := Go.Ground.phase }, { on := 5, ground := Go.Ground.phase }, { on := 6, ground := Go.Ground.phase }, { on := 7, ground := Go.Ground.phase }, { on := 8, ground := Go.Ground.phase }], guard := none } : Go.Oper) := rfl
theorem ops_15_7_ns : Go.Region.noSelect ops_15_7 = true := by kernel_rfl
set_option maxRecDepth 100000 in
set_option maxHeartbeats 8000000 in
theorem partsOf_calls (lo lo' lo3 : Nat) (v kv x : Value) (rs : List RD) (ks : List ByteArray) (l : LD) (w : World) (hR : Rls w lo v rs) (hn : rs.length ≤ 100) (hF : ∀ r ∈ rs, FitR l.stats r) (hK : Strs w lo' kv ks) (hT : Tds w lo3 x l.stats) (hS : SortedK (l.stats.map TD.name)) (hk : ∀ r ∈ rs, 1 ≤ r.kind ∧ r.kind ≤ 4) (hD : DigB w) :
    Calls Tryd.prog 15 #[v, kv, lnV l x] w fun e w' => ∃ v', e = .returned v' ∧ Prs w' w.heap.size v' (partsR ks l.stats rs) ∧ Below w.heap.size w w' := by
  obtain ⟨i0, hi, hz0, hz1, hz2⟩ := info_parts info_pr
  obtain ⟨ra, rc, rfl⟩ := rls_shape hR
  obtain ⟨ka, kc, rfl⟩ := strs_shape hK
  obtain ⟨ta, tc, rfl⟩ := tds_shape hT
  obtain ⟨W, hW⟩ : ∃ W, W = w.alloc (.cells #[.string l.player, .int .i64 l.week, .slice ta l.stats.length tc] 32) := ⟨_, rfl⟩
  have hwW : Below w.heap.size w W := by rw [hW]; exact below_alloc w _
  have hy : W.heap[w.heap.size]? = some (.cells #[.string l.player, .int .i64 l.week, .slice ta l.stats.length tc] 32 (0, 0)) := by rw [hW]; exact heap_alloc_new w _
  have Hat := Lib.hid (rls_at (hR.below hwW))
  have HC := Lib.hid (fun (r : RD) (hm : r ∈ rs) w' (hb : Below W.heap.size W w') => worthOf_calls lo3 lo' r l (.slice ta l.stats.length tc) (.slice ka ks.length kc) ks w' (hK.below (below_step hwW hb)) (hT.below (below_step hwW hb)) (hF r hm) hS (hk r hm))
  have HB := Lib.hid (fun (r : RD) (hm : r ∈ rs) => worthR_small (ks := ks) (hF r hm) hS (hk r hm))
  have HD := Lib.hid (fun w' (hb : Below W.heap.size W w') => (hD.below (below_step hwW hb)))
  have HwW := Lib.hid hwW
  have HPL := Lib.hid (fun k => parts_len ks l.stats (rs.take k))
  have y0 := cell_at hy 0 rfl
  have y1 := cell_at hy 1 rfl
  have y2 := cell_at hy 2 rfl
  have HS := Lib.hid (show ∀ w', Below W.heap.size W w' → w'.cell? ⟨w.heap.size, 0, none⟩ = some (.string l.player) ∧ w'.cell? ⟨w.heap.size, 1, none⟩ = some (.int .i64 l.week) ∧ w'.cell? ⟨w.heap.size, 2, none⟩ = some (.slice ta l.stats.length tc) from fun w' hb => ⟨below_cell hb y0, below_cell hb y1, below_cell hb y2⟩)
  have HI := Lib.hid (And.intro hi (And.intro hz0 (And.intro hz1 hz2)))
  clear hR hF hK hT hS hk hwW hy y0 y1 y2 hD hi hz0 hz1 hz2
  unfold lnV rlV at *
  go_enter Tryd.func15, Tryd.ntmps15
  go_upto_region 1 with fail
  rw [← hW]
  clear hW
  have hb0 := Below.refl W.heap.size W
  go_wp2_with fail
  go_loopw [7, 13] (fun s i wr => ∃ k : Nat, k ≤ rs.length ∧ i = .int .i64 k ∧ wr.ownsRow W.heap.size 51 2 s (partsR ks l.stats (rs.take k)).length ((partsR ks l.stats (rs.take k)).map prRow).flatten ∧ Below W.heap.size W wr) (fun _ i _ => rs.length - (intOf i).toNat)
  case atStart => exact ⟨0, Nat.zero_le _, rfl, by simpa [partsR] using World.ownsRow_nil _ _ _ _, hb0⟩
  case round =>
    clear hb0
    obtain ⟨k, hk, rfl, hown, hb⟩ := hrel
    by_cases hlt : k < rs.length
    · obtain ⟨r, hr⟩ : ∃ r, rs[k]? = some r := ⟨rs[k], List.getElem?_eq_getElem hlt⟩
      have Hst := Lib.hid (parts_take (ks := ks) (ts := l.stats) hr)
      have hm := List.mem_of_getElem? hr
      have hw1 := HB.out r hm
      have HL := Lib.hid (show (partsR ks l.stats (rs.take k)).length ≤ 100 by have := HPL.out k; rw [List.length_take] at this; omega)
      rcases Hat.out with ⟨_, h⟩ | ⟨g, off, cap, e, _, hg, _, hcell⟩
      · rw [h] at hlt; simp at hlt
      simp only [Value.slice.injEq] at e
      obtain ⟨rfl, -, rfl⟩ := e
      obtain ⟨q0, q1, q2, q3, q4, q5, q6⟩ := hcell k r hr
      have p0 := below_cell hb q0
      have p1 := below_cell hb q1
      have p2 := below_cell hb q2
      have p3 := below_cell hb q3
      have p4 := below_cell hb q4
      have p5 := below_cell hb q5
      have p6 := below_cell hb q6
      have HCr := Lib.hid (fun w' hb => HC.out r hm w' hb)
      have Hpr := Lib.hid (show partR ks l.stats r = if worthR ks l.stats r = 0 then [] else [⟨r.key, frS (lowF (worthR ks l.stats r) 100)⟩] from rfl)
      clear hr hm hcell q0 q1 q2 q3 q4 q5 q6
      generalize hA : partsR ks l.stats (rs.take k) = A at hown Hst HL
      clear hA
      generalize hQ : worthR ks l.stats r = Q at hw1 HCr Hpr
      clear hQ
      go_upto_region 5 with fail
      obtain ⟨wA, hwA⟩ : ∃ wA, wA = wr.alloc (.cells #[.string r.key, .string r.stat, .string r.pos, .int .i64 r.kind, .int .i64 r.many, .int .i64 r.num, .int .i64 r.den] 57) := ⟨_, rfl⟩
      obtain ⟨X, hX⟩ : ∃ X, X = wr.heap.size := ⟨_, rfl⟩
      have hbA : Below W.heap.size W wA := by rw [hwA]; exact below_step hb (below_alloc wr _)
      have hownA : wA.ownsRow W.heap.size 51 2 u7 A.length (A.map prRow).flatten := by rw [hwA]; exact World.ownsRow.alloc hown _
      have hXn : ∀ q, u7.ownBlock = some q → q ≠ X := fun q hq e => by
        obtain ⟨_, cur, hc⟩ := own_block hown q hq
        have := lt_of_heap hc; omega
      have HXn := Lib.hid hXn
      have hx : wA.heap[X]? = some (.cells #[.string r.key, .string r.stat, .string r.pos, .int .i64 r.kind, .int .i64 r.many, .int .i64 r.num, .int .i64 r.den] 57 (0, 0)) := by rw [hwA, hX]; exact heap_alloc_new wr _
      rw [← hwA, ← hX]
      have x0 := cell_at hx 0 rfl
      have x1 := cell_at hx 1 rfl
      have x2 := cell_at hx 2 rfl
      have x3 := cell_at hx 3 rfl
      have x4 := cell_at hx 4 rfl
      have x5 := cell_at hx 5 rfl
      have x6 := cell_at hx 6 rfl
      obtain ⟨y0, y1, y2⟩ := HS.out wA hbA
      have HbA := Lib.hid hbA
      have HoA := Lib.hid hownA
      have hXl := lt_of_heap hx
      have HXl := Lib.hid hXl
      clear hwA hX hbA hx hb p0 p1 p2 p3 p4 p5 p6 hown hownA hXn hXl
      go_wp2_with fail
      refine (HCr.out _ HbA.out).mono ?_
      rintro e wB ⟨rfl, hbB⟩
      go_upto_region 6 with fail
      have hc0 := below_cell hbB x0
      have hXB : X < wB.heap.size := Nat.lt_of_lt_of_le HXl.out hbB.size
      have hbW := below_step HbA.out hbB
      have hownB := own_below HoA.out hbB
      clear hbB x0 x1 x2 x3 x4 x5 x6 y0 y1 y2 HCr
      by_cases hz : Q = 0
      · have e1 : (Q != 0) = false := by simp [hz]
        have HP2 := Lib.hid (show partsR ks l.stats (rs.take (k + 1)) = A by rw [Hst.out, Hpr.out, if_pos hz, List.append_nil])
        clear hz
        go_wp2_with fail
        go_roundw
        case rel => exact ⟨k + 1, by omega, by go_num, by rw [HP2.out]; exact hownB, hbW⟩
        case measure => simp [intOf]; omega
      · have e1 : (Q != 0) = true := by simp [hz]
        have HP2 := Lib.hid (show partsR ks l.stats (rs.take (k + 1)) = A ++ [⟨r.key, frS (lowF Q 100)⟩] by rw [Hst.out, Hpr.out, if_neg hz])
        clear hz
        go_upto_region 7 with fail
        have hcD : wB.drew.cell? ⟨X, 0, none⟩ = some (.string r.key) := hc0
        have hownD := World.ownsRow.drew hownB
        have hbD := hbW.drew
        have hXD : X < wB.drew.heap.size := hXB
        have hXn := HXn.out
        obtain ⟨hi, hz0, hz1, hz2⟩ := HI.out
        clear hc0 hownB hbW hXB
        show Code.wp _ (Code.region 7 ops_15_7 true) _ _ _
        refine region_start 10 (fun w' => w'.cell? ⟨X, 0, none⟩ = some (.string r.key)) (by kernel_rfl) rfl ?_ (fun hHeld => ?_)
        · (first | exact hcD | exact hHeld | exact below_cell hbx hHeld | exact below_cell (below_alloc _ _) hHeld | exact (World.cell?_of_block (hgrow.block X (by simp; omega) fun e => hXn X e.symm rfl)).trans hHeld)
        refine take_to 0 23 #[true, false, false, false, false, false, false, false, false, false] (v := ?_) ops_15_7_0 rfl ops_15_7_ns (by kernel_rfl) (by kernel_rfl) (fun _ _ _ h => h) (by rfl) ?y0 (by assumption) ?_
        case y0 =>
          intro w hSw
          try dsimp only at hSw
          go_simp
          try with_reducible rfl
        simp only [List.set_cons_zero, List.set_cons_succ]
        refine take_to 1 24 #[true, true, false, false, false, false, false, false, false, false] (v := ?_) ops_15_7_1 rfl ops_15_7_ns (by kernel_rfl) (by kernel_rfl) (fun _ _ _ h => h) (by rfl) ?y1 (by assumption) ?_
        case y1 =>
          intro w hSw
          try dsimp only at hSw
          go_simp
          try with_reducible rfl
        simp only [List.set_cons_zero, List.set_cons_succ]
        refine take_to 2 25 #[true, true, true, false, false, false, false, false, false, false] (v := ?_) ops_15_7_2 rfl ops_15_7_ns (by kernel_rfl) (by kernel_rfl) (fun _ _ _ h => h) (by rfl) ?y2 (by assumption) ?_
        case y2 =>
          intro w hSw
          try dsimp only at hSw
          go_simp
          try with_reducible rfl
        simp only [List.set_cons_zero, List.set_cons_succ]
        refine take_to 3 26 #[true, true, true, true, false, false, false, false, false, false] (v := ?_) ops_15_7_3 rfl ops_15_7_ns (by kernel_rfl) (by kernel_rfl) (fun _ _ _ h => h) (by rfl) ?y3 (by assumption) ?_
        case y3 =>
          intro w hSw
          try dsimp only at hSw
          go_simp
          try with_reducible rfl
        simp only [List.set_cons_zero, List.set_cons_succ]
        refine run_to 4 #[true, true, true, true, true, false, false, false, false, false] ops_15_7_4 (by kernel_rfl) (by kernel_rfl) (by rfl) (fun K hK => ?_)
        go_simp
        refine (ofHundredthsR_calls Q _ (by unfold Int64; omega)).mono ?_
        rintro e w4 ⟨rfl, hbx⟩
        have hown4 := own_below hownD hbx
        have hb04 := below_step hbD hbx
        have hX4 : X < w4.heap.size := Nat.lt_of_lt_of_le hXD hbx.size
        generalize hL : lowF Q 100 = L at *
        have hL1 : Int64 L.1 := by rw [← hL]; exact (low_64 (by unfold Int64; omega)).1
        have hL2 : Int64 L.2 := by rw [← hL]; exact hun64 (low_64 (p := Q) (by unfold Int64; omega)).2
        clear hL
        obtain ⟨l1, l2⟩ := L
        unfold frV
        go_wp2_with fail
        refine hK.out _ _ ?_ (fun hHeld => ?_)
        · (first | exact hcD | exact hHeld | exact below_cell hbx hHeld | exact below_cell (below_alloc _ _) hHeld | exact (World.cell?_of_block (hgrow.block X (by simp; omega) fun e => hXn X e.symm rfl)).trans hHeld)
        clear hK K
        try simp only [Act.put, List.setIfInBounds_toArray, List.set_cons_zero, List.set_cons_succ]
        refine run_to 5 #[true, true, true, true, true, true, false, false, false, false] ops_15_7_5 (by kernel_rfl) (by kernel_rfl) (by rfl) (fun K hK => ?_)
        go_simp
        refine (fractionText_calls l1 l2 _ hL1 hL2 (HD.out _ hb04)).mono ?_
        rintro e w5 ⟨rfl, hbx⟩
        have hown5 := own_below hown4 hbx
        have hb05 := below_step hb04 hbx
        have hX5 : X < w5.heap.size := Nat.lt_of_lt_of_le hX4 hbx.size
        generalize hT : frS (l1, l2) = T at *
        clear hT
        go_wp2_with fail
        refine hK.out _ _ ?_ (fun hHeld => ?_)
        · (first | exact hcD | exact hHeld | exact below_cell hbx hHeld | exact below_cell (below_alloc _ _) hHeld | exact (World.cell?_of_block (hgrow.block X (by simp; omega) fun e => hXn X e.symm rfl)).trans hHeld)
        clear hK K
        try simp only [Act.put, List.setIfInBounds_toArray, List.set_cons_zero, List.set_cons_succ]
        refine run_to 6 #[true, true, true, true, true, true, true, false, false, false] ops_15_7_6 (by kernel_rfl) (by kernel_rfl) (by rfl) (fun K hK => ?_)
        go_simp
        refine hK.out _ _ ?_ (fun hHeld => ?_)
        · (first | exact hcD | exact hHeld | exact below_cell hbx hHeld | exact below_cell (below_alloc _ _) hHeld | exact (World.cell?_of_block (hgrow.block X (by simp; omega) fun e => hXn X e.symm rfl)).trans hHeld)
        clear hK K
        try simp only [Act.put, List.setIfInBounds_toArray, List.set_cons_zero, List.set_cons_succ]
        refine run_to 7 #[true, true, true, true, true, true, true, true, false, false] ops_15_7_7 (by kernel_rfl) (by kernel_rfl) (by rfl) (fun K hK => ?_)
        go_simp
        refine hK.out _ _ ?_ (fun hHeld => ?_)
        · (first | exact hcD | exact hHeld | exact below_cell hbx hHeld | exact below_cell (below_alloc _ _) hHeld | exact (World.cell?_of_block (hgrow.block X (by simp; omega) fun e => hXn X e.symm rfl)).trans hHeld)
        clear hK K
        try simp only [Act.put, List.setIfInBounds_toArray, List.set_cons_zero, List.set_cons_succ]
        refine run_to 8 #[true, true, true, true, true, true, true, true, true, false] ops_15_7_8 (by kernel_rfl) (by kernel_rfl) (by rfl) (fun K hK => ?_)
        refine wp_append_at _ (Operand.tmp 23) (Operand.tmp 30) 40 rfl W.heap.size 51 i0 (.agg #[.string ⟨#[]⟩, .string ⟨#[]⟩]) 2 32 Tryd.underlying40 hi hz0 hz1 hz2 rfl (by decide) _ _ _ rfl (hown5.alloc _) ⟨w5.heap.size, 0, none⟩ 1 1 [.string r.key, .string T] rfl rfl (cells_new _ _ _) (by simp [Value.oneCell']) (by have := HL.out; unfold maxLen; omega) (by have := HL.out; omega) (by have := hb05.size; simp; omega) ?_
        intro v8 w8 hown8 hgrow
        refine hK.out _ _ ?_ (fun hHeld => ?_)
        · (first | exact hcD | exact hHeld | exact below_cell hbx hHeld | exact below_cell (below_alloc _ _) hHeld | exact (World.cell?_of_block (hgrow.block X (by simp; omega) fun e => hXn X e.symm rfl)).trans hHeld)
        clear hK K
        try simp only [Act.put, List.setIfInBounds_toArray, List.set_cons_zero, List.set_cons_succ]
        refine take_to 9 7 #[true, true, true, true, true, true, true, true, true, true] (v := ?_) ops_15_7_9 rfl ops_15_7_ns (by kernel_rfl) (by kernel_rfl) (fun _ _ _ h => h) (by rfl) ?y9 (by assumption) ?_
        case y9 =>
          intro w hSw
          try dsimp only at hSw
          go_simp
          try with_reducible rfl
        simp only [List.set_cons_zero, List.set_cons_succ]
        refine wpAnyH_done (by kernel_rfl) ?_ _
        go_wp2_with fail
        go_roundw
        case rel =>
          refine ⟨k + 1, by omega, by go_num, by rw [HP2.out]; simpa [prRow] using hown8, (below_step hb05 (below_alloc _ _)).grown hgrow (by have := hb05.size; simp; omega) fun q hq => (own_block hown5 q hq).1⟩
        case measure => simp [intOf]; omega
    · obtain rfl : k = rs.length := by omega
      rw [List.take_length] at hown
      have hP := prs_of_owns hown (by have := parts_len ks l.stats rs; omega)
      have Hb3 := Lib.hid (below_step HwW.out hb)
      have HP := Lib.hid (Rows.mono hP HwW.out.size)
      clear hown hP hb
      go_wp2_with fail
      go_ret
      exact ⟨u7, rfl, HP.out, Hb3.out⟩
end Go.Proofs.YtfakhapljjbbnaaDoor
