/- Rules written: Text, and the reference's lines. -/
import Derived.Test.YtmejjkicagkogaaGreatDoorTrw
import Derived.Test.YtmejjkicagkogaaGreatDoorSpa
namespace Go.Proofs.YtmejjkicagkogaaGreatDoor
open Go.RowKit

def textRE (rs : List RD) : ByteArray := if chkRl rs = 0 then textRl rs else ⟨#[]⟩
set_option maxRecDepth 100000 in
set_option maxHeartbeats 2000000 in
theorem textRl_calls (lo : Nat) (v : Value) (rs : List RD) (w : World) (hR : Rls w lo v rs) (hs : ∀ r ∈ rs, SmallR r) (hn : rs.length ≤ 10) (hD : DigB w) :
    Calls Tryz.prog 6 #[v] w fun e w' => e = .returned (.tuple #[.string (textRE rs), .int .i64 (chkRl rs)]) ∧ Below w.heap.size w w' := by
  obtain ⟨ra, rc, rfl⟩ := rls_shape hR
  have C1 := Lib.hid (checkRules_calls lo _ rs w hR hs (by omega))
  have C2 := Lib.hid (fun (h : chkRl rs = 0) w' (hb : Below w.heap.size w w') => writeRl_calls lo _ rs w' (hR.below hb) hs hn (fun r hr => ((rules_ok h).2 r hr).1) (hD.below hb))
  have HR0 := Lib.hid (show chkRl rs ≠ 0 → textRE rs = ⟨#[]⟩ from fun h => by unfold textRE; rw [if_neg h])
  have HR1 := Lib.hid (show chkRl rs = 0 → textRE rs = textRl rs from fun h => by unfold textRE; rw [if_pos h])
  generalize textRE rs = R at HR0 HR1 ⊢
  generalize chkRl rs = X at C1 C2 HR0 HR1 ⊢
  clear hR hs hn hD
  go_enter Tryz.func6, Tryz.ntmps6
  go_wp2_with fail
  refine C1.out.mono ?_
  rintro e w1 ⟨rfl, hb1⟩
  by_cases hz : X = 0
  · have e1 : (X != 0) = false := by simp [hz]
    have HC := Lib.hid (C2.out hz w1 hb1)
    have HRr := Lib.hid (HR1.out hz)
    have Hz := Lib.hid hz
    clear hz C1 C2
    go_wp2_with fail
    refine HC.out.mono ?_
    rintro e w2 ⟨rfl, hb2⟩
    go_wp2_with fail
    go_ret2
    rw [HRr.out, Hz.out]
    exact ⟨rfl, below_step hb1 hb2⟩
  · have e1 : (X != 0) = true := by simp [hz]
    have HRr := Lib.hid (HR0.out hz)
    clear hz C1 C2
    go_wp2_with fail
    go_ret2
    rw [HRr.out]
    exact ⟨rfl, hb1⟩
def ops_8_5 : Array Go.Oper := #[
  { dst := some 12, op := Go.Op.move (Go.Operand.tmp 3), type := 9, pos := "scores.go:422", after := #[], guard := none },
  { dst := some 13, op := Go.Op.fieldAddr 40 (Go.Operand.tmp 5) 0, type := 0, pos := "scores.go:422", after := #[], guard := none },
  { dst := some 14, op := Go.Op.load 9 (Go.Operand.tmp 13), type := 9, pos := "scores.go:422", after := #[{ on := 1, ground := Go.Ground.data }], guard := none },
  { dst := some 15, op := Go.Op.fieldAddr 40 (Go.Operand.tmp 5) 1, type := 0, pos := "scores.go:422", after := #[], guard := none },
  { dst := some 16, op := Go.Op.load 9 (Go.Operand.tmp 15), type := 9, pos := "scores.go:422", after := #[{ on := 3, ground := Go.Ground.data }], guard := none },
  { dst := some 17, op := Go.Op.fieldAddr 40 (Go.Operand.tmp 5) 2, type := 0, pos := "scores.go:422", after := #[], guard := none },
  { dst := some 18, op := Go.Op.load 9 (Go.Operand.tmp 17), type := 9, pos := "scores.go:422", after := #[{ on := 5, ground := Go.Ground.data }], guard := none },
  { dst := some 19, op := Go.Op.call { callee := Go.Callee.value (Go.Operand.func 31), args := #[Go.Operand.tmp 18], argTypes := #[9] }, type := 9, pos := "scores.go:422", after := #[{ on := 6, ground := Go.Ground.data }], guard := none },
  { dst := some 20, op := Go.Op.call { callee := Go.Callee.value (Go.Operand.func 32), args := #[], argTypes := #[] }, type := 52, pos := "scores.go:422", after := #[{ on := 7, ground := Go.Ground.chain }], guard := none },
  { dst := some 21, op := Go.Op.fieldAddr 40 (Go.Operand.tmp 5) 3, type := 0, pos := "scores.go:422", after := #[], guard := none },
  { dst := some 22, op := Go.Op.load 3 (Go.Operand.tmp 21), type := 3, pos := "scores.go:422", after := #[{ on := 9, ground := Go.Ground.data }], guard := none },
  { dst := some 23, op := Go.Op.indexAddr 52 (Go.Operand.tmp 20) (Go.Operand.tmp 22), type := 0, pos := "scores.go:422", after := #[{ on := 8, ground := Go.Ground.data }, { on := 10, ground := Go.Ground.data }], guard := none },
  { dst := some 24, op := Go.Op.load 9 (Go.Operand.tmp 23), type := 9, pos := "scores.go:422", after := #[{ on := 11, ground := Go.Ground.data }], guard := none },
  { dst := some 25, op := Go.Op.fieldAddr 40 (Go.Operand.tmp 5) 4, type := 0, pos := "scores.go:422", after := #[], guard := none },
  { dst := some 26, op := Go.Op.load 3 (Go.Operand.tmp 25), type := 3, pos := "scores.go:422", after := #[{ on := 13, ground := Go.Ground.data }], guard := none },
  { dst := some 27, op := Go.Op.call { callee := Go.Callee.value (Go.Operand.func 25), args := #[Go.Operand.tmp 26], argTypes := #[3] }, type := 9, pos := "scores.go:422", after := #[{ on := 14, ground := Go.Ground.data }, { on := 8, ground := Go.Ground.chain }], guard := none },
  { dst := some 28, op := Go.Op.fieldAddr 40 (Go.Operand.tmp 5) 5, type := 0, pos := "scores.go:422", after := #[], guard := none },
  { dst := some 29, op := Go.Op.load 38 (Go.Operand.tmp 28), type := 38, pos := "scores.go:422", after := #[{ on := 16, ground := Go.Ground.data }], guard := none },
  { dst := some 30, op := Go.Op.call { callee := Go.Callee.value (Go.Operand.func 33), args := #[Go.Operand.tmp 29], argTypes := #[38] }, type := 9, pos := "scores.go:422", after := #[{ on := 17, ground := Go.Ground.data }, { on := 15, ground := Go.Ground.chain }], guard := none },
  { dst := some 31, op := Go.Op.buildSlice 52 6 #[(0, Go.Operand.tmp 14), (1, Go.Operand.tmp 16), (2, Go.Operand.tmp 19), (3, Go.Operand.tmp 24), (4, Go.Operand.tmp 27), (5, Go.Operand.tmp 30)], type := 52, pos := "scores.go:422", after := #[{ on := 2, ground := Go.Ground.data }, { on := 4, ground := Go.Ground.data }, { on := 7, ground := Go.Ground.data }, { on := 12, ground := Go.Ground.data }, { on := 15, ground := Go.Ground.data }, { on := 18, ground := Go.Ground.data }], guard := none },
  { dst := some 32, op := Go.Op.call { callee := Go.Callee.value (Go.Operand.func 27), args := #[Go.Operand.tmp 31, Go.Operand.const (Go.Value.string { data := #[32] })], argTypes := #[52, 9] }, type := 9, pos := "scores.go:422", after := #[{ on := 19, ground := Go.Ground.data }, { on := 18, ground := Go.Ground.chain }], guard := none },
  { dst := some 33, op := Go.Op.binOp Go.BinOp.add 9 (Go.Operand.tmp 32) (Go.Operand.const (Go.Value.string { data := #[10] })) 9, type := 9, pos := "scores.go:422", after := #[{ on := 20, ground := Go.Ground.data }], guard := none },
  { dst := some 34, op := Go.Op.binOp Go.BinOp.add 9 (Go.Operand.tmp 12) (Go.Operand.tmp 33) 9, type := 9, pos := "scores.go:422", after := #[{ on := 0, ground := Go.Ground.data }, { on := 21, ground := Go.Ground.data }], guard := none },
  { dst := some 3, op := Go.Op.assign (Go.Operand.tmp 34), type := 9, pos := "scores.go:422", after := #[{ on := 22, ground := Go.Ground.data }, { on := 20, ground := Go.Ground.chain }, { on := 0, ground := Go.Ground.phase }, { on := 1, ground := Go.Ground.phase }, { on := 2, ground := Go.Ground.phase }, { on := 3, ground := Go.Ground.phase }, { on := 4, ground := Go.Ground.phase }, { on := 5, ground := Go.Ground.phase }, { on := 6, ground := Go.Ground.phase }, { on := 7, ground := Go.Ground.phase }, { on := 8, ground := Go.Ground.phase }, { on := 9, ground := Go.Ground.phase }, { on := 10, ground := Go.Ground.phase }, { on := 11, ground := Go.Ground.phase }, { on := 12, ground := Go.Ground.phase }, { on := 13, ground := Go.Ground.phase }, { on := 14, ground := Go.Ground.phase }, { on := 15, ground := Go.Ground.phase }, { on := 16, ground := Go.Ground.phase }, { on := 17, ground := Go.Ground.phase }, { on := 18, ground := Go.Ground.phase }, { on := 19, ground := Go.Ground.phase }, { on := 20, ground := Go.Ground.phase }, { on := 21, ground := Go.Ground.phase }, { on := 22, ground := Go.Ground.phase }], guard := none }]
theorem ops_8_5_0 : ops_8_5[0]? = some ({ dst := some 12, op := Go.Op.move (Go.Operand.tmp 3), type := 9, pos := "scores.go:422", after := #[], guard := none } : Go.Oper) := rfl
theorem ops_8_5_1 : ops_8_5[1]? = some ({ dst := some 13, op := Go.Op.fieldAddr 40 (Go.Operand.tmp 5) 0, type := 0, pos := "scores.go:422", after := #[], guard := none } : Go.Oper) := rfl
theorem ops_8_5_2 : ops_8_5[2]? = some ({ dst := some 14, op := Go.Op.load 9 (Go.Operand.tmp 13), type := 9, pos := "scores.go:422", after := #[{ on := 1, ground := Go.Ground.data }], guard := none } : Go.Oper) := rfl
theorem ops_8_5_3 : ops_8_5[3]? = some ({ dst := some 15, op := Go.Op.fieldAddr 40 (Go.Operand.tmp 5) 1, type := 0, pos := "scores.go:422", after := #[], guard := none } : Go.Oper) := rfl
theorem ops_8_5_4 : ops_8_5[4]? = some ({ dst := some 16, op := Go.Op.load 9 (Go.Operand.tmp 15), type := 9, pos := "scores.go:422", after := #[{ on := 3, ground := Go.Ground.data }], guard := none } : Go.Oper) := rfl
theorem ops_8_5_5 : ops_8_5[5]? = some ({ dst := some 17, op := Go.Op.fieldAddr 40 (Go.Operand.tmp 5) 2, type := 0, pos := "scores.go:422", after := #[], guard := none } : Go.Oper) := rfl
theorem ops_8_5_6 : ops_8_5[6]? = some ({ dst := some 18, op := Go.Op.load 9 (Go.Operand.tmp 17), type := 9, pos := "scores.go:422", after := #[{ on := 5, ground := Go.Ground.data }], guard := none } : Go.Oper) := rfl
theorem ops_8_5_7 : ops_8_5[7]? = some ({ dst := some 19, op := Go.Op.call { callee := Go.Callee.value (Go.Operand.func 31), args := #[Go.Operand.tmp 18], argTypes := #[9] }, type := 9, pos := "scores.go:422", after := #[{ on := 6, ground := Go.Ground.data }], guard := none } : Go.Oper) := rfl
theorem ops_8_5_8 : ops_8_5[8]? = some ({ dst := some 20, op := Go.Op.call { callee := Go.Callee.value (Go.Operand.func 32), args := #[], argTypes := #[] }, type := 52, pos := "scores.go:422", after := #[{ on := 7, ground := Go.Ground.chain }], guard := none } : Go.Oper) := rfl
theorem ops_8_5_9 : ops_8_5[9]? = some ({ dst := some 21, op := Go.Op.fieldAddr 40 (Go.Operand.tmp 5) 3, type := 0, pos := "scores.go:422", after := #[], guard := none } : Go.Oper) := rfl
theorem ops_8_5_10 : ops_8_5[10]? = some ({ dst := some 22, op := Go.Op.load 3 (Go.Operand.tmp 21), type := 3, pos := "scores.go:422", after := #[{ on := 9, ground := Go.Ground.data }], guard := none } : Go.Oper) := rfl
theorem ops_8_5_11 : ops_8_5[11]? = some ({ dst := some 23, op := Go.Op.indexAddr 52 (Go.Operand.tmp 20) (Go.Operand.tmp 22), type := 0, pos := "scores.go:422", after := #[{ on := 8, ground := Go.Ground.data }, { on := 10, ground := Go.Ground.data }], guard := none } : Go.Oper) := rfl
theorem ops_8_5_12 : ops_8_5[12]? = some ({ dst := some 24, op := Go.Op.load 9 (Go.Operand.tmp 23), type := 9, pos := "scores.go:422", after := #[{ on := 11, ground := Go.Ground.data }], guard := none } : Go.Oper) := rfl
theorem ops_8_5_13 : ops_8_5[13]? = some ({ dst := some 25, op := Go.Op.fieldAddr 40 (Go.Operand.tmp 5) 4, type := 0, pos := "scores.go:422", after := #[], guard := none } : Go.Oper) := rfl
theorem ops_8_5_14 : ops_8_5[14]? = some ({ dst := some 26, op := Go.Op.load 3 (Go.Operand.tmp 25), type := 3, pos := "scores.go:422", after := #[{ on := 13, ground := Go.Ground.data }], guard := none } : Go.Oper) := rfl
theorem ops_8_5_15 : ops_8_5[15]? = some ({ dst := some 27, op := Go.Op.call { callee := Go.Callee.value (Go.Operand.func 25), args := #[Go.Operand.tmp 26], argTypes := #[3] }, type := 9, pos := "scores.go:422", after := #[{ on := 14, ground := Go.Ground.data }, { on := 8, ground := Go.Ground.chain }], guard := none } : Go.Oper) := rfl
theorem ops_8_5_16 : ops_8_5[16]? = some ({ dst := some 28, op := Go.Op.fieldAddr 40 (Go.Operand.tmp 5) 5, type := 0, pos := "scores.go:422", after := #[], guard := none } : Go.Oper) := rfl
theorem ops_8_5_17 : ops_8_5[17]? = some ({ dst := some 29, op := Go.Op.load 38 (Go.Operand.tmp 28), type := 38, pos := "scores.go:422", after := #[{ on := 16, ground := Go.Ground.data }], guard := none } : Go.Oper) := rfl
theorem ops_8_5_18 : ops_8_5[18]? = some ({ dst := some 30, op := Go.Op.call { callee := Go.Callee.value (Go.Operand.func 33), args := #[Go.Operand.tmp 29], argTypes := #[38] }, type := 9, pos := "scores.go:422", after := #[{ on := 17, ground := Go.Ground.data }, { on := 15, ground := Go.Ground.chain }], guard := none } : Go.Oper) := rfl
theorem ops_8_5_19 : ops_8_5[19]? = some ({ dst := some 31, op := Go.Op.buildSlice 52 6 #[(0, Go.Operand.tmp 14), (1, Go.Operand.tmp 16), (2, Go.Operand.tmp 19), (3, Go.Operand.tmp 24), (4, Go.Operand.tmp 27), (5, Go.Operand.tmp 30)], type := 52, pos := "scores.go:422", after := #[{ on := 2, ground := Go.Ground.data }, { on := 4, ground := Go.Ground.data }, { on := 7, ground := Go.Ground.data }, { on := 12, ground := Go.Ground.data }, { on := 15, ground := Go.Ground.data }, { on := 18, ground := Go.Ground.data }], guard := none } : Go.Oper) := rfl
theorem ops_8_5_20 : ops_8_5[20]? = some ({ dst := some 32, op := Go.Op.call { callee := Go.Callee.value (Go.Operand.func 27), args := #[Go.Operand.tmp 31, Go.Operand.const (Go.Value.string { data := #[32] })], argTypes := #[52, 9] }, type := 9, pos := "scores.go:422", after := #[{ on := 19, ground := Go.Ground.data }, { on := 18, ground := Go.Ground.chain }], guard := none } : Go.Oper) := rfl
theorem ops_8_5_21 : ops_8_5[21]? = some ({ dst := some 33, op := Go.Op.binOp Go.BinOp.add 9 (Go.Operand.tmp 32) (Go.Operand.const (Go.Value.string { data := #[10] })) 9, type := 9, pos := "scores.go:422", after := #[{ on := 20, ground := Go.Ground.data }], guard := none } : Go.Oper) := rfl
theorem ops_8_5_22 : ops_8_5[22]? = some ({ dst := some 34, op := Go.Op.binOp Go.BinOp.add 9 (Go.Operand.tmp 12) (Go.Operand.tmp 33) 9, type := 9, pos := "scores.go:422", after := #[{ on := 0, ground := Go.Ground.data }, { on := 21, ground := Go.Ground.data }], guard := none } : Go.Oper) := rfl
theorem ops_8_5_23 : ops_8_5[23]? = some ({ dst := some 3, op := Go.Op.assign (Go.Operand.tmp 34), type := 9, pos := "scores.go:422", after := #[{ on := 22, ground := Go.Ground.data }, { on := 20, ground := Go.Ground.chain }, { on := 0, ground := Go.Ground.phase }, { on := 1, ground := Go.Ground.phase }, { on := 2, ground := Go.Ground.phase }, { on := 3, ground := Go.Ground.phase }, { on := 4, ground := Go.Ground.phase }, { on := 5, ground := Go.Ground.phase }, { on := 6, ground := Go.Ground.phase }, { on := 7, ground := Go.Ground.phase }, { on := 8, ground := Go.Ground.phase }, { on := 9, ground := Go.Ground.phase }, { on := 10, ground := Go.Ground.phase }, { on := 11, ground := Go.Ground.phase }, { on := 12, ground := Go.Ground.phase }, { on := 13, ground := Go.Ground.phase }, { on := 14, ground := Go.Ground.phase }, { on := 15, ground := Go.Ground.phase }, { on := 16, ground := Go.Ground.phase }, { on := 17, ground := Go.Ground.phase }, { on := 18, ground := Go.Ground.phase }, { on := 19, ground := Go.Ground.phase }, { on := 20, ground := Go.Ground.phase }, { on := 21, ground := Go.Ground.phase }, { on := 22, ground := Go.Ground.phase }], guard := none } : Go.Oper) := rfl
theorem ops_8_5_ns : Go.Region.noSelect ops_8_5 = true := by kernel_rfl
set_option maxRecDepth 100000 in
set_option maxHeartbeats 8000000 in
theorem ruleLines_calls (lo : Nat) (v : Value) (rs : List RD) (w : World) (hR : Rls w lo v rs) (hs : ∀ r ∈ rs, SmallR r) (hn : rs.length ≤ 10) (hk : ∀ r ∈ rs, 1 ≤ r.kind ∧ r.kind ≤ 4) (hD : DigB w) :
    Calls Tryz.prog 8 #[v] w fun e w' => e = .returned (.string (textRl rs)) ∧ Below w.heap.size w w' := by
  have Hat := Lib.hid (rls_at hR)
  obtain ⟨ra, rc, rfl⟩ := rls_shape hR
  have Hs := Lib.hid hs
  have Hk := Lib.hid hk
  have HD0 := Lib.hid (fun w' (hb : Below w.heap.size w w') => hD.below hb)
  have HSz : Hid (∀ k, (textRl (rs.take k)).size ≤ 60070) := Lib.hid fun k => by
    rw [textRl_size]
    exact Nat.le_trans (bytesRl_take k) (Nat.le_trans (bytesRl_len hs) (Nat.le_trans (Nat.mul_le_mul_right 6007 hn) (by decide)))
  clear hR hs hk hD hn
  go_enter Tryz.func8, Tryz.ntmps8
  go_wp2_with fail
  go_loopw [3, 8] (fun s i wr => ∃ k : Nat, k ≤ rs.length ∧ i = .int .i64 k ∧ s = .string (textRl (rs.take k)) ∧ Below w.heap.size w wr) (fun _ i _ => rs.length - (intOf i).toNat)
  case atStart => exact ⟨0, Nat.zero_le _, rfl, rfl, Below.refl _ _⟩
  case round =>
    obtain ⟨j, hj, rfl, rfl, hb⟩ := hrel
    by_cases hlt : j < rs.length
    · obtain ⟨r, hr⟩ : ∃ r, rs[j]? = some r := ⟨rs[j], List.getElem?_eq_getElem hlt⟩
      have hm := List.mem_of_getElem? hr
      rcases Hat.out with ⟨_, h⟩ | ⟨g, off, cap, e, _, hg, _, hcell⟩
      · rw [h] at hlt; simp at hlt
      simp only [Value.slice.injEq] at e
      obtain ⟨rfl, -, rfl⟩ := e
      obtain ⟨q0, q1, q2, q3, q4, q5, q6⟩ := hcell j r hr
      have p0 := below_cell hb q0
      have p1 := below_cell hb q1
      have p2 := below_cell hb q2
      have p3 := below_cell hb q3
      have p4 := below_cell hb q4
      have p5 := below_cell hb q5
      have p6 := below_cell hb q6
      have Hsn := Lib.hid (textRl_snoc hr)
      have hsm := Hs.out r hm
      have hkk := Hk.out r hm
      have HRs := Lib.hid (ruleW_small hsm)
      have hs64 : Int64 r.many ∧ Int64 r.num ∧ Int64 r.den := ⟨hsm.2.2.2.2.1, hsm.2.2.2.2.2.1, hsm.2.2.2.2.2.2⟩
      obtain ⟨k, hkd⟩ : ∃ k : Nat, r.kind = (k : Int) + 1 := ⟨(r.kind - 1).toNat, by omega⟩
      have hk4 : k < 4 := by omega
      have Hkd := Lib.hid hkd
      have hkn : 0 ≤ r.kind := by omega
      have hk5 : r.kind < 5 := by omega
      have hkt : r.kind.toNat = k + 1 := by omega
      have hLz := lineR_size hsm
      have hTz := HSz.out j
      have HL := Lib.hid (show lineR r = wordsS (ruleW r) from rfl)
      have z1 : ¬ 9223372036854775807 < (lineR r).size + 1 := by omega
      have z2 : ¬ 9223372036854775807 < (textRl (rs.take j)).size + ((lineR r).size + 1) := by omega
      obtain ⟨X, hX⟩ : ∃ X, X = wr.heap.size := ⟨_, rfl⟩
      obtain ⟨W, hW⟩ : ∃ W, W = wr.alloc (.cells #[.string r.key, .string r.stat, .string r.pos, .int .i64 r.kind, .int .i64 r.many, .int .i64 r.num, .int .i64 r.den] 40) := ⟨_, rfl⟩
      have hx : W.heap[X]? = some (.cells #[.string r.key, .string r.stat, .string r.pos, .int .i64 r.kind, .int .i64 r.many, .int .i64 r.num, .int .i64 r.den] 40 (0, 0)) := by rw [hW, hX]; exact heap_alloc_new wr _
      have hbW : Below w.heap.size w W := by rw [hW]; exact below_step hb (below_alloc wr _)
      have HbW := Lib.hid hbW
      have HD := Lib.hid (fun w' (hb : Below W.heap.size W w') => HD0.out w' (below_step hbW hb))
      have HS := Lib.hid (show ∀ w', Below W.heap.size W w' → (Below W.heap.size W w' ∧ w'.cell? ⟨X, 0, none⟩ = some (.string r.key) ∧ w'.cell? ⟨X, 1, none⟩ = some (.string r.stat) ∧ w'.cell? ⟨X, 2, none⟩ = some (.string r.pos) ∧ w'.cell? ⟨X, 3, none⟩ = some (.int .i64 r.kind) ∧ w'.cell? ⟨X, 4, none⟩ = some (.int .i64 r.many) ∧ w'.cell? ⟨X, 5, none⟩ = some (.int .i64 r.num) ∧ w'.cell? ⟨X, 6, none⟩ = some (.int .i64 r.den)) from fun w' hb => ⟨hb, below_cell hb (cell_at hx 0 rfl), below_cell hb (cell_at hx 1 rfl), below_cell hb (cell_at hx 2 rfl), below_cell hb (cell_at hx 3 rfl), below_cell hb (cell_at hx 4 rfl), below_cell hb (cell_at hx 5 rfl), below_cell hb (cell_at hx 6 rfl)⟩)
      have HJ := Lib.hid (fun w => (show Strs (w.alloc (.cells #[.string r.key, .string r.stat, .string (dashS r.pos), .string (kindS r.kind), .string (itoaS r.many), .string (frS (r.num, r.den))] 9)) w.heap.size (.slice (some ⟨w.heap.size, 0, none⟩) 6 6) (ruleW r) from strs_new w (ruleW r) (Nat.le_of_ble_eq_true rfl)))
      have HX := Lib.hid hX
      clear hr hm hcell hx hb hbW hsm hkk hkd hLz hTz q0 q1 q2 q3 q4 q5 q6 hX
      generalize textRl (rs.take j) = T at Hsn z2 ⊢
      go_upto_region 5 with fail
      rw [← hW, ← HX.out]
      clear hW p0 p1 p2 p3 p4 p5 p6 HX
      have hb0 := (Below.refl W.heap.size W).drew
      show Code.wp _ (Code.region 5 ops_8_5 true) _ _ _
      refine region_start 24 (fun w' => Below W.heap.size W w' ∧ w'.cell? ⟨X, 0, none⟩ = some (.string r.key) ∧ w'.cell? ⟨X, 1, none⟩ = some (.string r.stat) ∧ w'.cell? ⟨X, 2, none⟩ = some (.string r.pos) ∧ w'.cell? ⟨X, 3, none⟩ = some (.int .i64 r.kind) ∧ w'.cell? ⟨X, 4, none⟩ = some (.int .i64 r.many) ∧ w'.cell? ⟨X, 5, none⟩ = some (.int .i64 r.num) ∧ w'.cell? ⟨X, 6, none⟩ = some (.int .i64 r.den)) (by kernel_rfl) rfl ?_ (fun hHeld => ?_)
      · (exact HS.out _ (by first | assumption | exact hHeld.1 | exact below_step hHeld0 (by assumption) | exact below_step hHeld.1 (by assumption) | exact below_step hHeld.1 (below_alloc _ _)))
      refine take_to 0 12 #[true, false, false, false, false, false, false, false, false, false, false, false, false, false, false, false, false, false, false, false, false, false, false, false] (v := ?_) ops_8_5_0 rfl ops_8_5_ns (by kernel_rfl) (by kernel_rfl) (fun _ _ _ h => h) (by rfl) ?y0 (by assumption) ?_
      case y0 =>
        intro w hSw
        try dsimp only at hSw
        go_simp
        try with_reducible rfl
      simp only [List.set_cons_zero, List.set_cons_succ]
      refine take_to 1 13 #[true, true, false, false, false, false, false, false, false, false, false, false, false, false, false, false, false, false, false, false, false, false, false, false] (v := ?_) ops_8_5_1 rfl ops_8_5_ns (by kernel_rfl) (by kernel_rfl) (fun _ _ _ h => h) (by rfl) ?y1 (by assumption) ?_
      case y1 =>
        intro w hSw
        try dsimp only at hSw
        go_simp
        try with_reducible rfl
      simp only [List.set_cons_zero, List.set_cons_succ]
      refine take_to 2 14 #[true, true, true, false, false, false, false, false, false, false, false, false, false, false, false, false, false, false, false, false, false, false, false, false] (v := ?_) ops_8_5_2 rfl ops_8_5_ns (by kernel_rfl) (by kernel_rfl) (fun _ _ _ h => h) (by rfl) ?y2 (by assumption) ?_
      case y2 =>
        intro w hSw
        try dsimp only at hSw
        go_simp
        try with_reducible rfl
      simp only [List.set_cons_zero, List.set_cons_succ]
      refine take_to 3 15 #[true, true, true, true, false, false, false, false, false, false, false, false, false, false, false, false, false, false, false, false, false, false, false, false] (v := ?_) ops_8_5_3 rfl ops_8_5_ns (by kernel_rfl) (by kernel_rfl) (fun _ _ _ h => h) (by rfl) ?y3 (by assumption) ?_
      case y3 =>
        intro w hSw
        try dsimp only at hSw
        go_simp
        try with_reducible rfl
      simp only [List.set_cons_zero, List.set_cons_succ]
      refine take_to 4 16 #[true, true, true, true, true, false, false, false, false, false, false, false, false, false, false, false, false, false, false, false, false, false, false, false] (v := ?_) ops_8_5_4 rfl ops_8_5_ns (by kernel_rfl) (by kernel_rfl) (fun _ _ _ h => h) (by rfl) ?y4 (by assumption) ?_
      case y4 =>
        intro w hSw
        try dsimp only at hSw
        go_simp
        try with_reducible rfl
      simp only [List.set_cons_zero, List.set_cons_succ]
      refine take_to 5 17 #[true, true, true, true, true, true, false, false, false, false, false, false, false, false, false, false, false, false, false, false, false, false, false, false] (v := ?_) ops_8_5_5 rfl ops_8_5_ns (by kernel_rfl) (by kernel_rfl) (fun _ _ _ h => h) (by rfl) ?y5 (by assumption) ?_
      case y5 =>
        intro w hSw
        try dsimp only at hSw
        go_simp
        try with_reducible rfl
      simp only [List.set_cons_zero, List.set_cons_succ]
      refine take_to 6 18 #[true, true, true, true, true, true, true, false, false, false, false, false, false, false, false, false, false, false, false, false, false, false, false, false] (v := ?_) ops_8_5_6 rfl ops_8_5_ns (by kernel_rfl) (by kernel_rfl) (fun _ _ _ h => h) (by rfl) ?y6 (by assumption) ?_
      case y6 =>
        intro w hSw
        try dsimp only at hSw
        go_simp
        try with_reducible rfl
      simp only [List.set_cons_zero, List.set_cons_succ]
      refine take_to 9 21 #[true, true, true, true, true, true, true, false, false, true, false, false, false, false, false, false, false, false, false, false, false, false, false, false] (v := ?_) ops_8_5_9 rfl ops_8_5_ns (by kernel_rfl) (by kernel_rfl) (fun _ _ _ h => h) (by rfl) ?y9 (by assumption) ?_
      case y9 =>
        intro w hSw
        try dsimp only at hSw
        go_simp
        try with_reducible rfl
      simp only [List.set_cons_zero, List.set_cons_succ]
      refine take_to 10 22 #[true, true, true, true, true, true, true, false, false, true, true, false, false, false, false, false, false, false, false, false, false, false, false, false] (v := .int .i64 r.kind) ops_8_5_10 rfl ops_8_5_ns (by kernel_rfl) (by kernel_rfl) (fun _ _ _ h => h) (by rfl) ?y10 (by assumption) ?_
      case y10 =>
        intro w hSw
        try dsimp only at hSw
        go_simp
        try with_reducible rfl
      simp only [List.set_cons_zero, List.set_cons_succ]
      refine take_to 13 25 #[true, true, true, true, true, true, true, false, false, true, true, false, false, true, false, false, false, false, false, false, false, false, false, false] (v := ?_) ops_8_5_13 rfl ops_8_5_ns (by kernel_rfl) (by kernel_rfl) (fun _ _ _ h => h) (by rfl) ?y13 (by assumption) ?_
      case y13 =>
        intro w hSw
        try dsimp only at hSw
        go_simp
        try with_reducible rfl
      simp only [List.set_cons_zero, List.set_cons_succ]
      refine take_to 14 26 #[true, true, true, true, true, true, true, false, false, true, true, false, false, true, true, false, false, false, false, false, false, false, false, false] (v := ?_) ops_8_5_14 rfl ops_8_5_ns (by kernel_rfl) (by kernel_rfl) (fun _ _ _ h => h) (by rfl) ?y14 (by assumption) ?_
      case y14 =>
        intro w hSw
        try dsimp only at hSw
        go_simp
        try with_reducible rfl
      simp only [List.set_cons_zero, List.set_cons_succ]
      refine take_to 16 28 #[true, true, true, true, true, true, true, false, false, true, true, false, false, true, true, false, true, false, false, false, false, false, false, false] (v := ?_) ops_8_5_16 rfl ops_8_5_ns (by kernel_rfl) (by kernel_rfl) (fun _ _ _ h => h) (by rfl) ?y16 (by assumption) ?_
      case y16 =>
        intro w hSw
        try dsimp only at hSw
        go_simp
        try with_reducible rfl
      simp only [List.set_cons_zero, List.set_cons_succ]
      refine take_to 17 29 #[true, true, true, true, true, true, true, false, false, true, true, false, false, true, true, false, true, true, false, false, false, false, false, false] (v := ?_) ops_8_5_17 rfl ops_8_5_ns (by kernel_rfl) (by kernel_rfl) (fun _ _ _ h => h) (by rfl) ?y17 (by assumption) ?_
      case y17 =>
        intro w hSw
        try dsimp only at hSw
        go_simp
        try with_reducible rfl
      simp only [List.set_cons_zero, List.set_cons_succ]
      refine run_to 7 #[true, true, true, true, true, true, true, true, false, true, true, false, false, true, true, false, true, true, false, false, false, false, false, false] ops_8_5_7 (by kernel_rfl) (by kernel_rfl) (by rfl) (fun K hK => ?_)
      go_simp
      refine (dash_calls r.pos _).mono ?_
      rintro e w' ⟨rfl, rfl⟩
      go_wp2_with fail
      refine hK.out _ _ ?_ (fun hHeld => ?_)
      · (exact HS.out _ (by first | assumption | exact hHeld.1 | exact below_step hHeld0 (by assumption) | exact below_step hHeld.1 (by assumption) | exact below_step hHeld.1 (below_alloc _ _)))
      clear hK K
      try simp only [Act.put, List.setIfInBounds_toArray, List.set_cons_zero, List.set_cons_succ]
      refine run_to 8 #[true, true, true, true, true, true, true, true, true, true, true, false, false, true, true, false, true, true, false, false, false, false, false, false] ops_8_5_8 (by kernel_rfl) (by kernel_rfl) (by rfl) (fun K hK => ?_)
      go_simp
      refine (ruleWords_calls _).mono ?_
      rintro e wk' ⟨rfl, hwk⟩
      obtain ⟨wk, hwk0⟩ : ∃ wk, wk = W.drew := ⟨_, rfl⟩
      rw [← hwk0] at hwk ⊢
      have hb' : Below wk.heap.size wk wk' := by rw [hwk]; exact below_alloc wk _
      have kcell : wk'.cell? ⟨wk.heap.size, k + 1, none⟩ = some (.string (kindS r.kind)) := by rw [hwk]; exact ruleWords_cell wk hk4 Hkd.out
      have hHeld0 : Below W.heap.size W wk := by rw [hwk0]; exact (Below.refl _ _).drew
      clear hwk hwk0
      go_wp2_with fail
      refine hK.out _ _ ?_ (fun hHeld => ?_)
      · (exact HS.out _ (by first | assumption | exact hHeld.1 | exact below_step hHeld0 (by assumption) | exact below_step hHeld.1 (by assumption) | exact below_step hHeld.1 (below_alloc _ _)))
      clear hK K
      try simp only [Act.put, List.setIfInBounds_toArray, List.set_cons_zero, List.set_cons_succ]
      obtain ⟨KB, hKB⟩ : ∃ KB, KB = wk.heap.size := ⟨_, rfl⟩
      rw [← hKB]
      rw [← hKB] at kcell
      clear hKB
      have HS2 := Lib.hid (show ∀ w', Below W.heap.size W w' → w'.cell? ⟨KB, k + 1, none⟩ = some (.string (kindS r.kind)) → ((Below W.heap.size W w' ∧ w'.cell? ⟨KB, k + 1, none⟩ = some (.string (kindS r.kind))) ∧ w'.cell? ⟨X, 0, none⟩ = some (.string r.key) ∧ w'.cell? ⟨X, 1, none⟩ = some (.string r.stat) ∧ w'.cell? ⟨X, 2, none⟩ = some (.string r.pos) ∧ w'.cell? ⟨X, 3, none⟩ = some (.int .i64 r.kind) ∧ w'.cell? ⟨X, 4, none⟩ = some (.int .i64 r.many) ∧ w'.cell? ⟨X, 5, none⟩ = some (.int .i64 r.num) ∧ w'.cell? ⟨X, 6, none⟩ = some (.int .i64 r.den)) from fun w' hb h => ⟨⟨hb, h⟩, (HS.out w' hb).2⟩)
      refine held_mono (S' := fun w' => (Below W.heap.size W w' ∧ w'.cell? ⟨KB, k + 1, none⟩ = some (.string (kindS r.kind))) ∧ w'.cell? ⟨X, 0, none⟩ = some (.string r.key) ∧ w'.cell? ⟨X, 1, none⟩ = some (.string r.stat) ∧ w'.cell? ⟨X, 2, none⟩ = some (.string r.pos) ∧ w'.cell? ⟨X, 3, none⟩ = some (.int .i64 r.kind) ∧ w'.cell? ⟨X, 4, none⟩ = some (.int .i64 r.many) ∧ w'.cell? ⟨X, 5, none⟩ = some (.int .i64 r.num) ∧ w'.cell? ⟨X, 6, none⟩ = some (.int .i64 r.den)) (fun w' h => ⟨h.1.1, h.2⟩) _ _ _ _ ?_
      replace hHeld := HS2.out _ hHeld.1 kcell
      refine take_to 11 23 #[true, true, true, true, true, true, true, true, true, true, true, true, false, true, true, false, true, true, false, false, false, false, false, false] (v := .pointer (some ⟨KB, k + 1, none⟩)) ops_8_5_11 rfl ops_8_5_ns (by kernel_rfl) (by kernel_rfl) (fun _ _ _ h => h) (by rfl) ?y11 (by assumption) ?_
      case y11 =>
        intro w hSw
        try dsimp only at hSw
        go_simp
        all_goals (first | rfl | omega | (simp; done) | (simp; omega) | trace_state)
      simp only [List.set_cons_zero, List.set_cons_succ]
      refine take_to 12 24 #[true, true, true, true, true, true, true, true, true, true, true, true, true, true, true, false, true, true, false, false, false, false, false, false] (v := ?_) ops_8_5_12 rfl ops_8_5_ns (by kernel_rfl) (by kernel_rfl) (fun _ _ _ h => h) (by rfl) ?y12 (by assumption) ?_
      case y12 =>
        intro w hSw
        try dsimp only at hSw
        go_simp
        try with_reducible rfl
      simp only [List.set_cons_zero, List.set_cons_succ]
      refine run_to 15 #[true, true, true, true, true, true, true, true, true, true, true, true, true, true, true, true, true, true, false, false, false, false, false, false] ops_8_5_15 (by kernel_rfl) (by kernel_rfl) (by rfl) (fun K hK => ?_)
      go_simp
      refine (itoa_calls r.many _ hs64.1 (HD.out _ hHeld.1.1 _ (Below.refl _ _))).mono ?_
      rintro e w' ⟨rfl, hb'⟩
      go_wp2_with fail
      refine hK.out _ _ ?_ (fun hHeld => ?_)
      · (exact HS2.out _ (by first | exact below_step hHeld.1.1 (by assumption) | exact below_step hHeld.1.1 (below_alloc _ _) | exact hHeld.1.1) (by first | exact below_cell (by assumption) hHeld.1.2 | exact below_cell (below_alloc _ _) hHeld.1.2 | exact hHeld.1.2))
      clear hK K
      try simp only [Act.put, List.setIfInBounds_toArray, List.set_cons_zero, List.set_cons_succ]
      refine run_to 18 #[true, true, true, true, true, true, true, true, true, true, true, true, true, true, true, true, true, true, true, false, false, false, false, false] ops_8_5_18 (by kernel_rfl) (by kernel_rfl) (by rfl) (fun K hK => ?_)
      go_simp
      refine (fractionText_calls r.num r.den _ hs64.2.1 hs64.2.2 (HD.out _ hHeld.1.1)).mono ?_
      rintro e w' ⟨rfl, hb'⟩
      go_wp2_with fail
      refine hK.out _ _ ?_ (fun hHeld => ?_)
      · (exact HS2.out _ (by first | exact below_step hHeld.1.1 (by assumption) | exact below_step hHeld.1.1 (below_alloc _ _) | exact hHeld.1.1) (by first | exact below_cell (by assumption) hHeld.1.2 | exact below_cell (below_alloc _ _) hHeld.1.2 | exact hHeld.1.2))
      clear hK K
      try simp only [Act.put, List.setIfInBounds_toArray, List.set_cons_zero, List.set_cons_succ]
      refine run_to 19 #[true, true, true, true, true, true, true, true, true, true, true, true, true, true, true, true, true, true, true, true, false, false, false, false] ops_8_5_19 (by kernel_rfl) (by kernel_rfl) (by rfl) (fun K hK => ?_)
      go_simp
      refine hK.out _ _ ?_ (fun hHeld => ?_)
      · (exact HS2.out _ (by first | exact below_step hHeld.1.1 (by assumption) | exact below_step hHeld.1.1 (below_alloc _ _) | exact hHeld.1.1) (by first | exact below_cell (by assumption) hHeld.1.2 | exact below_cell (below_alloc _ _) hHeld.1.2 | exact hHeld.1.2))
      clear hK K
      try simp only [Act.put, List.setIfInBounds_toArray, List.set_cons_zero, List.set_cons_succ]
      refine run_to 20 #[true, true, true, true, true, true, true, true, true, true, true, true, true, true, true, true, true, true, true, true, true, false, false, false] ops_8_5_20 (by kernel_rfl) (by kernel_rfl) (by rfl) (fun K hK => ?_)
      go_simp
      refine (joinW_calls _ _ (ruleW r) _ (HJ.out _) (Nat.le_of_ble_eq_true rfl) HRs.out).mono ?_
      rintro e w' ⟨rfl, hb'⟩
      rw [← HL.out]
      go_wp2_with fail
      refine hK.out _ _ ?_ (fun hHeld => ?_)
      · (exact HS2.out _ (by first | exact below_step hHeld.1.1 (by assumption) | exact below_step hHeld.1.1 (below_alloc _ _) | exact hHeld.1.1) (by first | exact below_cell (by assumption) hHeld.1.2 | exact below_cell (below_alloc _ _) hHeld.1.2 | exact hHeld.1.2))
      clear hK K
      try simp only [Act.put, List.setIfInBounds_toArray, List.set_cons_zero, List.set_cons_succ]
      refine take_to 21 33 #[true, true, true, true, true, true, true, true, true, true, true, true, true, true, true, true, true, true, true, true, true, true, false, false] (v := ?_) ops_8_5_21 rfl ops_8_5_ns (by kernel_rfl) (by kernel_rfl) (fun _ _ _ h => h) (by rfl) ?y21 (by assumption) ?_
      case y21 =>
        intro w hSw
        try dsimp only at hSw
        go_simp
        try with_reducible rfl
      simp only [List.set_cons_zero, List.set_cons_succ]
      refine take_to 22 34 #[true, true, true, true, true, true, true, true, true, true, true, true, true, true, true, true, true, true, true, true, true, true, true, false] (v := ?_) ops_8_5_22 rfl ops_8_5_ns (by kernel_rfl) (by kernel_rfl) (fun _ _ _ h => h) (by rfl) ?y22 (by assumption) ?_
      case y22 =>
        intro w hSw
        try dsimp only at hSw
        go_simp
        try with_reducible rfl
      simp only [List.set_cons_zero, List.set_cons_succ]
      refine take_to 23 3 #[true, true, true, true, true, true, true, true, true, true, true, true, true, true, true, true, true, true, true, true, true, true, true, true] (v := ?_) ops_8_5_23 rfl ops_8_5_ns (by kernel_rfl) (by kernel_rfl) (fun _ _ _ h => h) (by rfl) ?y23 (by assumption) ?_
      case y23 =>
        intro w hSw
        try dsimp only at hSw
        go_simp
        try with_reducible rfl
      simp only [List.set_cons_zero, List.set_cons_succ]
      refine wpAnyH_done (by kernel_rfl) ?_ _
      have Hq := Lib.hid (below_step HbW.out hHeld.1.1)
      clear hHeld hb0 hs64 hHeld0
      go_wp2_with fail
      go_roundw
      case rel => exact ⟨j + 1, by omega, by go_num, by rw [Hsn.out], Hq.out⟩
      case measure => simp [intOf]; omega
    · obtain rfl : j = rs.length := by omega
      have hT := Lib.hid (List.take_length (l := rs))
      rw [hT.out]
      go_wp2_with fail
      go_ret
      exact ⟨rfl, hb⟩
end Go.Proofs.YtmejjkicagkogaaGreatDoor
