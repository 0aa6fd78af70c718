/- Rules written. -/
import Derived.Test.YtmejjkicagkogaaGreatDoorTxa
import Derived.Test.YtmejjkicagkogaaGreatDoorNmc
import Derived.Test.YtmejjkicagkogaaGreatDoorHmo
import Derived.Test.YtmejjkicagkogaaGreatDoorSpg
import Derived.Deep.CutRange
namespace Go.Proofs.YtmejjkicagkogaaGreatDoor
open Go.RowKit

theorem join_le (sep : List UInt8) (M : Nat) : ∀ (xs : List (List UInt8)), (∀ x ∈ xs, x.length ≤ M) → (Lib.join xs sep).length ≤ xs.length * (M + sep.length)
  | [], _ => by simp [Lib.join, List.intercalate]
  | [x], h => by
    have := h x (by simp)
    simp [Lib.join, List.intercalate]
    omega
  | x :: y :: t, h => by
    have h1 := h x (by simp)
    have h2 := join_le sep M (y :: t) (fun z hz => h z (by simp [hz]))
    have e : Lib.join (x :: y :: t) sep = x ++ (sep ++ Lib.join (y :: t) sep) := by simp [Lib.join, List.intercalate, List.intersperse]
    rw [e, List.length_append, List.length_append]
    have e2 : (x :: y :: t).length * (M + sep.length) = (y :: t).length * (M + sep.length) + (M + sep.length) := by
      rw [List.length_cons, Nat.add_mul, Nat.one_mul]
    omega
/-- Words with single blanks between. -/
def wordsS (ks : List ByteArray) : ByteArray := ⟨(Lib.join (ks.map (·.data.toList)) [32]).toArray⟩
theorem wordsS_size (ks : List ByteArray) (h : ∀ k ∈ ks, k.size ≤ 1000) : (wordsS ks).size ≤ ks.length * 1001 := by
  have h1 := join_le [32] 1000 (ks.map (·.data.toList)) fun x hx => by
    obtain ⟨k, hk, rfl⟩ := List.mem_map.1 hx
    rw [len_size]; exact h k hk
  rw [List.length_map] at h1
  have e : (wordsS ks).size = (Lib.join (ks.map (·.data.toList)) [32]).length := by show (List.toArray _).size = _; simp
  rw [e]; exact h1
theorem joinW_calls (lo : Nat) (v : Value) (ks : List ByteArray) (w : World) (h : Strs w lo v ks) (hn : ks.length ≤ 1000) (hk : ∀ k ∈ ks, k.size ≤ 1000) :
    Calls Tryz.prog 27 #[v, .string ⟨#[32]⟩] w fun e w' => e = .returned (.string (wordsS ks)) ∧ Below w.heap.size w w' := by
  obtain ⟨a, c, rfl⟩ := strs_shape' h
  have hf := Rows.fits (show Rows w 9 lo 1 (.slice a ks.length c) (ks.map fun k => [.string k]) from h)
  rcases strs_at h with ⟨e, rfl⟩ | ⟨g, off, cap, e, _, hg, _, hc⟩
  · refine (Tryz.strings_Join_none a c ⟨#[32]⟩ w).mono ?_
    rintro e w' ⟨rfl, rfl⟩
    exact ⟨rfl, Below.refl _ _⟩
  · simp only [Value.slice.injEq, true_and] at e
    obtain ⟨rfl, rfl⟩ := e
    have hsz := wordsS_size ks hk
    have e1 : (wordsS ks).size = (Lib.join (ks.map (·.data.toList)) [32]).length := by show (List.toArray _).size = _; simp
    exact Tryz.strings_Join g off c ks ⟨#[32]⟩ w hc hg (by omega) hf (by show (Lib.join (ks.map (·.data.toList)) [32]).length ≤ _; rw [← e1]; omega)
def K_each : ByteArray := ⟨#[101, 97, 99, 104]⟩
def K_step : ByteArray := ⟨#[115, 116, 101, 112]⟩
def K_from : ByteArray := ⟨#[102, 114, 111, 109]⟩
def K_none : ByteArray := ⟨#[110, 111, 110, 101]⟩
def kindsL : List ByteArray := [K_each, K_step, K_from, K_none]
/-- The word for a kind. -/
def kindS (n : Int) : ByteArray := if n = 1 then K_each else if n = 2 then K_step else if n = 3 then K_from else K_none
def dashS (s : ByteArray) : ByteArray := if s.size = 0 then ⟨#[45]⟩ else s
theorem kindS_at (k : Nat) (hk : k < 4) : kindsL[k]? = some (kindS ((k : Int) + 1)) := by
  match k, hk with
  | 0, _ => rfl
  | 1, _ => rfl
  | 2, _ => rfl
  | 3, _ => rfl
theorem kindS_size (n : Int) : (kindS n).size ≤ 1000 := by unfold kindS; split <;> (try split) <;> (try split) <;> decide
theorem dashS_size {s : ByteArray} (h : s.size ≤ 1000) : (dashS s).size ≤ 1000 := by
  unfold dashS
  by_cases h0 : s.size = 0
  · rw [if_pos h0]; decide
  · rw [if_neg h0]; exact h
set_option maxHeartbeats 400000 in
theorem kinds_calls (w : World) : Calls Tryz.prog 24 #[] w fun e w' => e = .returned (.slice (some ⟨w.heap.size, 0, none⟩) 4 4) ∧ w' = w.alloc (.cells (kindsL.map Value.string).toArray 9) := by
  go_enter Tryz.func24, Tryz.ntmps24
  go_wp2_with fail
  go_ret
  exact ⟨rfl, rfl⟩
set_option maxHeartbeats 400000 in
theorem ruleWords_calls (w : World) : Calls Tryz.prog 32 #[] w fun e w' => e = .returned (.slice (some ⟨w.heap.size, 0, none⟩) 5 5) ∧ w' = w.alloc (.cells ((⟨#[]⟩ :: kindsL).map Value.string).toArray 9) := by
  go_enter Tryz.func32, Tryz.ntmps32
  go_wp2_with fail
  go_ret
  exact ⟨rfl, rfl⟩
set_option maxHeartbeats 400000 in
theorem dash_calls (s : ByteArray) (w : World) : Calls Tryz.prog 31 #[.string s] w fun e w' => e = .returned (.string (dashS s)) ∧ w' = w := by
  cases he : s.toList.isEmpty with
  | true =>
    have h := he
    rw [empty_of] at h
    have HD := Lib.hid (show dashS s = ⟨#[45]⟩ by unfold dashS; rw [if_pos (of_decide_eq_true h)])
    clear h
    go_enter Tryz.func31, Tryz.ntmps31
    go_wp2_with fail
    go_ret
    exact ⟨by rw [HD.out]; rfl, rfl⟩
  | false =>
    have h := he
    rw [empty_of] at h
    have HD := Lib.hid (show dashS s = s by unfold dashS; rw [if_neg (of_decide_eq_false h)])
    clear h
    go_enter Tryz.func31, Tryz.ntmps31
    go_wp2_with fail
    go_ret
    exact ⟨by rw [HD.out]; rfl, rfl⟩
theorem kinds_cell (w : World) {r : Int} {k : Nat} (hk : k < 4) (hr : r = (k : Int) + 1) : (w.alloc (.cells (kindsL.map Value.string).toArray 9)).cell? ⟨w.heap.size, k, none⟩ = some (.string (kindS r)) := by
  subst hr
  rw [World.cell?_alloc_at _ _ _ _ rfl, List.getElem?_toArray, List.getElem?_map, kindS_at k hk]
  rfl
theorem ruleWords_cell (w : World) {r : Int} {k : Nat} (hk : k < 4) (hr : r = (k : Int) + 1) : (w.alloc (.cells ((⟨#[]⟩ :: kindsL).map Value.string).toArray 9)).cell? ⟨w.heap.size, k + 1, none⟩ = some (.string (kindS r)) := by
  subst hr
  rw [World.cell?_alloc_at _ _ _ _ rfl, List.getElem?_toArray, List.getElem?_map, List.getElem?_cons_succ, kindS_at k hk]
  rfl
/-- The words of a rule, and its line without its end. -/
def ruleW (r : RD) : List ByteArray := [r.key, r.stat, dashS r.pos, kindS r.kind, itoaS r.many, frS (r.num, r.den)]
def lineR (r : RD) : ByteArray := wordsS (ruleW r)
theorem frS_size {n d : Int} (hn : Int64 n) (hd : Int64 d) : (frS (n, d)).size ≤ 1000 := by
  have h1 := itoaS_size hn
  have h2 := itoaS_size hd
  unfold frS
  simp only [ByteArray.size_append]
  have e1 : (⟨#[47]⟩ : ByteArray).size = 1 := rfl
  omega
theorem ruleW_small {r : RD} (h : SmallR r) : ∀ k ∈ ruleW r, k.size ≤ 1000 := by
  obtain ⟨h1, h2, h3, h4, h5, h6, h7⟩ := h
  intro k hk
  simp only [ruleW, List.mem_cons, List.not_mem_nil, or_false] at hk
  rcases hk with rfl | rfl | rfl | rfl | rfl | rfl
  · exact h1
  · exact h2
  · exact dashS_size h3
  · exact kindS_size _
  · exact Nat.le_trans (itoaS_size h5) (by omega)
  · exact frS_size h6 h7
theorem lineR_size {r : RD} (h : SmallR r) : (lineR r).size ≤ 6006 := by
  have := wordsS_size (ruleW r) (ruleW_small h)
  have e : (ruleW r).length = 6 := rfl
  rw [e] at this
  unfold lineR
  omega
def ops_23_4 : Array Go.Oper := #[
  { dst := some 9, op := Go.Op.fieldAddr 40 (Go.Operand.tmp 1) 0, type := 0, pos := "text.go:26", after := #[], guard := none },
  { dst := some 10, op := Go.Op.load 9 (Go.Operand.tmp 9), type := 9, pos := "text.go:26", after := #[{ on := 0, ground := Go.Ground.data }], guard := none },
  { dst := some 11, op := Go.Op.fieldAddr 40 (Go.Operand.tmp 1) 1, type := 0, pos := "text.go:26", after := #[], guard := none },
  { dst := some 12, op := Go.Op.load 9 (Go.Operand.tmp 11), type := 9, pos := "text.go:26", after := #[{ on := 2, ground := Go.Ground.data }], guard := none },
  { dst := some 13, op := Go.Op.move (Go.Operand.tmp 3), type := 9, pos := "text.go:26", after := #[], guard := none },
  { dst := some 14, op := Go.Op.call { callee := Go.Callee.value (Go.Operand.func 24), args := #[], argTypes := #[] }, type := 52, pos := "text.go:26", after := #[], guard := none },
  { dst := some 15, op := Go.Op.fieldAddr 40 (Go.Operand.tmp 1) 3, type := 0, pos := "text.go:26", after := #[], guard := none },
  { dst := some 16, op := Go.Op.load 3 (Go.Operand.tmp 15), type := 3, pos := "text.go:26", after := #[{ on := 6, ground := Go.Ground.data }], guard := none },
  { dst := some 17, op := Go.Op.binOp Go.BinOp.sub 3 (Go.Operand.tmp 16) (Go.Operand.const (Go.Value.int Go.IntKind.i64 1)) 3, type := 3, pos := "text.go:26", after := #[{ on := 7, ground := Go.Ground.data }], guard := none },
  { dst := some 18, op := Go.Op.indexAddr 52 (Go.Operand.tmp 14) (Go.Operand.tmp 17), type := 0, pos := "text.go:26", after := #[{ on := 5, ground := Go.Ground.data }, { on := 8, ground := Go.Ground.data }], guard := none },
  { dst := some 19, op := Go.Op.load 9 (Go.Operand.tmp 18), type := 9, pos := "text.go:26", after := #[{ on := 9, ground := Go.Ground.data }], guard := none },
  { dst := some 20, op := Go.Op.fieldAddr 40 (Go.Operand.tmp 1) 4, type := 0, pos := "text.go:26", after := #[], guard := none },
  { dst := some 21, op := Go.Op.load 3 (Go.Operand.tmp 20), type := 3, pos := "text.go:26", after := #[{ on := 11, ground := Go.Ground.data }], guard := none },
  { dst := some 22, op := Go.Op.call { callee := Go.Callee.value (Go.Operand.func 25), args := #[Go.Operand.tmp 21], argTypes := #[3] }, type := 9, pos := "text.go:26", after := #[{ on := 12, ground := Go.Ground.data }, { on := 5, ground := Go.Ground.chain }], guard := none },
  { dst := some 23, op := Go.Op.fieldAddr 40 (Go.Operand.tmp 1) 5, type := 0, pos := "text.go:26", after := #[], guard := none },
  { dst := some 24, op := Go.Op.load 38 (Go.Operand.tmp 23), type := 38, pos := "text.go:26", after := #[{ on := 14, ground := Go.Ground.data }], guard := none },
  { dst := some 25, op := Go.Op.call { callee := Go.Callee.value (Go.Operand.func 26), args := #[Go.Operand.tmp 24], argTypes := #[38] }, type := 9, pos := "text.go:26", after := #[{ on := 15, ground := Go.Ground.data }, { on := 13, ground := Go.Ground.chain }], guard := none },
  { dst := some 26, op := Go.Op.buildSlice 52 6 #[(0, Go.Operand.tmp 10), (1, Go.Operand.tmp 12), (2, Go.Operand.tmp 13), (3, Go.Operand.tmp 19), (4, Go.Operand.tmp 22), (5, Go.Operand.tmp 25)], type := 52, pos := "text.go:26", after := #[{ on := 1, ground := Go.Ground.data }, { on := 3, ground := Go.Ground.data }, { on := 4, ground := Go.Ground.data }, { on := 10, ground := Go.Ground.data }, { on := 13, ground := Go.Ground.data }, { on := 16, ground := Go.Ground.data }], guard := none },
  { dst := some 4, op := Go.Op.assign (Go.Operand.tmp 26), type := 52, pos := "text.go:26", after := #[{ on := 17, ground := Go.Ground.data }, { on := 16, ground := Go.Ground.chain }, { on := 0, ground := Go.Ground.phase }, { on := 1, ground := Go.Ground.phase }, { on := 2, ground := Go.Ground.phase }, { on := 3, ground := Go.Ground.phase }, { on := 4, ground := Go.Ground.phase }, { on := 5, ground := Go.Ground.phase }, { on := 6, ground := Go.Ground.phase }, { on := 7, ground := Go.Ground.phase }, { on := 8, ground := Go.Ground.phase }, { on := 9, ground := Go.Ground.phase }, { on := 10, ground := Go.Ground.phase }, { on := 11, ground := Go.Ground.phase }, { on := 12, ground := Go.Ground.phase }, { on := 13, ground := Go.Ground.phase }, { on := 14, ground := Go.Ground.phase }, { on := 15, ground := Go.Ground.phase }, { on := 16, ground := Go.Ground.phase }, { on := 17, ground := Go.Ground.phase }], guard := none }]
theorem ops_23_4_0 : ops_23_4[0]? = some ({ dst := some 9, op := Go.Op.fieldAddr 40 (Go.Operand.tmp 1) 0, type := 0, pos := "text.go:26", after := #[], guard := none } : Go.Oper) := rfl
theorem ops_23_4_1 : ops_23_4[1]? = some ({ dst := some 10, op := Go.Op.load 9 (Go.Operand.tmp 9), type := 9, pos := "text.go:26", after := #[{ on := 0, ground := Go.Ground.data }], guard := none } : Go.Oper) := rfl
theorem ops_23_4_2 : ops_23_4[2]? = some ({ dst := some 11, op := Go.Op.fieldAddr 40 (Go.Operand.tmp 1) 1, type := 0, pos := "text.go:26", after := #[], guard := none } : Go.Oper) := rfl
theorem ops_23_4_3 : ops_23_4[3]? = some ({ dst := some 12, op := Go.Op.load 9 (Go.Operand.tmp 11), type := 9, pos := "text.go:26", after := #[{ on := 2, ground := Go.Ground.data }], guard := none } : Go.Oper) := rfl
theorem ops_23_4_4 : ops_23_4[4]? = some ({ dst := some 13, op := Go.Op.move (Go.Operand.tmp 3), type := 9, pos := "text.go:26", after := #[], guard := none } : Go.Oper) := rfl
theorem ops_23_4_5 : ops_23_4[5]? = some ({ dst := some 14, op := Go.Op.call { callee := Go.Callee.value (Go.Operand.func 24), args := #[], argTypes := #[] }, type := 52, pos := "text.go:26", after := #[], guard := none } : Go.Oper) := rfl
theorem ops_23_4_6 : ops_23_4[6]? = some ({ dst := some 15, op := Go.Op.fieldAddr 40 (Go.Operand.tmp 1) 3, type := 0, pos := "text.go:26", after := #[], guard := none } : Go.Oper) := rfl
theorem ops_23_4_7 : ops_23_4[7]? = some ({ dst := some 16, op := Go.Op.load 3 (Go.Operand.tmp 15), type := 3, pos := "text.go:26", after := #[{ on := 6, ground := Go.Ground.data }], guard := none } : Go.Oper) := rfl
theorem ops_23_4_8 : ops_23_4[8]? = some ({ dst := some 17, op := Go.Op.binOp Go.BinOp.sub 3 (Go.Operand.tmp 16) (Go.Operand.const (Go.Value.int Go.IntKind.i64 1)) 3, type := 3, pos := "text.go:26", after := #[{ on := 7, ground := Go.Ground.data }], guard := none } : Go.Oper) := rfl
theorem ops_23_4_9 : ops_23_4[9]? = some ({ dst := some 18, op := Go.Op.indexAddr 52 (Go.Operand.tmp 14) (Go.Operand.tmp 17), type := 0, pos := "text.go:26", after := #[{ on := 5, ground := Go.Ground.data }, { on := 8, ground := Go.Ground.data }], guard := none } : Go.Oper) := rfl
theorem ops_23_4_10 : ops_23_4[10]? = some ({ dst := some 19, op := Go.Op.load 9 (Go.Operand.tmp 18), type := 9, pos := "text.go:26", after := #[{ on := 9, ground := Go.Ground.data }], guard := none } : Go.Oper) := rfl
theorem ops_23_4_11 : ops_23_4[11]? = some ({ dst := some 20, op := Go.Op.fieldAddr 40 (Go.Operand.tmp 1) 4, type := 0, pos := "text.go:26", after := #[], guard := none } : Go.Oper) := rfl
theorem ops_23_4_12 : ops_23_4[12]? = some ({ dst := some 21, op := Go.Op.load 3 (Go.Operand.tmp 20), type := 3, pos := "text.go:26", after := #[{ on := 11, ground := Go.Ground.data }], guard := none } : Go.Oper) := rfl
theorem ops_23_4_13 : ops_23_4[13]? = some ({ dst := some 22, op := Go.Op.call { callee := Go.Callee.value (Go.Operand.func 25), args := #[Go.Operand.tmp 21], argTypes := #[3] }, type := 9, pos := "text.go:26", after := #[{ on := 12, ground := Go.Ground.data }, { on := 5, ground := Go.Ground.chain }], guard := none } : Go.Oper) := rfl
theorem ops_23_4_14 : ops_23_4[14]? = some ({ dst := some 23, op := Go.Op.fieldAddr 40 (Go.Operand.tmp 1) 5, type := 0, pos := "text.go:26", after := #[], guard := none } : Go.Oper) := rfl
theorem ops_23_4_15 : ops_23_4[15]? = some ({ dst := some 24, op := Go.Op.load 38 (Go.Operand.tmp 23), type := 38, pos := "text.go:26", after := #[{ on := 14, ground := Go.Ground.data }], guard := none } : Go.Oper) := rfl
theorem ops_23_4_16 : ops_23_4[16]? = some ({ dst := some 25, op := Go.Op.call { callee := Go.Callee.value (Go.Operand.func 26), args := #[Go.Operand.tmp 24], argTypes := #[38] }, type := 9, pos := "text.go:26", after := #[{ on := 15, ground := Go.Ground.data }, { on := 13, ground := Go.Ground.chain }], guard := none } : Go.Oper) := rfl
theorem ops_23_4_17 : ops_23_4[17]? = some ({ dst := some 26, op := Go.Op.buildSlice 52 6 #[(0, Go.Operand.tmp 10), (1, Go.Operand.tmp 12), (2, Go.Operand.tmp 13), (3, Go.Operand.tmp 19), (4, Go.Operand.tmp 22), (5, Go.Operand.tmp 25)], type := 52, pos := "text.go:26", after := #[{ on := 1, ground := Go.Ground.data }, { on := 3, ground := Go.Ground.data }, { on := 4, ground := Go.Ground.data }, { on := 10, ground := Go.Ground.data }, { on := 13, ground := Go.Ground.data }, { on := 16, ground := Go.Ground.data }], guard := none } : Go.Oper) := rfl
theorem ops_23_4_18 : ops_23_4[18]? = some ({ dst := some 4, op := Go.Op.assign (Go.Operand.tmp 26), type := 52, pos := "text.go:26", after := #[{ on := 17, ground := Go.Ground.data }, { on := 16, ground := Go.Ground.chain }, { on := 0, ground := Go.Ground.phase }, { on := 1, ground := Go.Ground.phase }, { on := 2, ground := Go.Ground.phase }, { on := 3, ground := Go.Ground.phase }, { on := 4, ground := Go.Ground.phase }, { on := 5, ground := Go.Ground.phase }, { on := 6, ground := Go.Ground.phase }, { on := 7, ground := Go.Ground.phase }, { on := 8, ground := Go.Ground.phase }, { on := 9, ground := Go.Ground.phase }, { on := 10, ground := Go.Ground.phase }, { on := 11, ground := Go.Ground.phase }, { on := 12, ground := Go.Ground.phase }, { on := 13, ground := Go.Ground.phase }, { on := 14, ground := Go.Ground.phase }, { on := 15, ground := Go.Ground.phase }, { on := 16, ground := Go.Ground.phase }, { on := 17, ground := Go.Ground.phase }], guard := none } : Go.Oper) := rfl
theorem ops_23_4_ns : Go.Region.noSelect ops_23_4 = true := by kernel_rfl
set_option maxRecDepth 100000 in
set_option maxHeartbeats 4000000 in
theorem ruleLine_calls (r : RD) (w : World) (hs : SmallR r) (hkd : 1 ≤ r.kind ∧ r.kind ≤ 4) (hD : DigB w) :
    Calls Tryz.prog 23 #[rlV r] w fun e w' => e = .returned (.string (lineR r)) ∧ Below w.heap.size w w' := by
  obtain ⟨k, hkd⟩ : ∃ k : Nat, r.kind = (k : Int) + 1 := ⟨(r.kind - 1).toNat, by omega⟩
  have hk : k < 4 := by omega
  obtain ⟨X, hX⟩ : ∃ X, X = w.heap.size := ⟨_, rfl⟩
  obtain ⟨W, hW⟩ : ∃ W, W = w.alloc (.cells #[.string r.key, .string r.stat, .string r.pos, .int .i64 r.kind, .int .i64 r.many, .int .i64 r.num, .int .i64 r.den] 40) := ⟨_, rfl⟩
  have hx : W.heap[X]? = some (.cells #[.string r.key, .string r.stat, .string r.pos, .int .i64 r.kind, .int .i64 r.many, .int .i64 r.num, .int .i64 r.den] 40 (0, 0)) := by rw [hW, hX]; exact heap_alloc_new w _
  have hwW : Below w.heap.size w W := by rw [hW]; exact below_alloc w _
  have x2 := cell_at hx 2 rfl
  have HS := Lib.hid (show ∀ w', Below W.heap.size W w' → (Below W.heap.size W w' ∧ w'.cell? ⟨X, 0, none⟩ = some (.string r.key) ∧ w'.cell? ⟨X, 1, none⟩ = some (.string r.stat) ∧ w'.cell? ⟨X, 2, none⟩ = some (.string r.pos) ∧ w'.cell? ⟨X, 3, none⟩ = some (.int .i64 r.kind) ∧ w'.cell? ⟨X, 4, none⟩ = some (.int .i64 r.many) ∧ w'.cell? ⟨X, 5, none⟩ = some (.int .i64 r.num) ∧ w'.cell? ⟨X, 6, none⟩ = some (.int .i64 r.den)) from fun w' hb => ⟨hb, below_cell hb (cell_at hx 0 rfl), below_cell hb (cell_at hx 1 rfl), below_cell hb (cell_at hx 2 rfl), below_cell hb (cell_at hx 3 rfl), below_cell hb (cell_at hx 4 rfl), below_cell hb (cell_at hx 5 rfl), below_cell hb (cell_at hx 6 rfl)⟩)
  have HD := Lib.hid (fun w' (hb : Below W.heap.size W w') => hD.below (below_step hwW hb))
  have hs64 : Int64 r.many ∧ Int64 r.num ∧ Int64 r.den := ⟨hs.2.2.2.2.1, hs.2.2.2.2.2.1, hs.2.2.2.2.2.2⟩
  have hwr : IntKind.i64.wrap (r.kind - 1) = (k : Int) := by rw [hkd, IntWalk.i64_in _ (by omega)]; omega
  have Hs := Lib.hid hs
  have HL := Lib.hid (show lineR r = wordsS (ruleW r) from rfl)
  have HwW := Lib.hid hwW
  have Hkd := Lib.hid hkd
  clear hs hD hx hwW hkd
  unfold rlV
  go_enter Tryz.func23, Tryz.ntmps23
  go_upto_region 1 with fail
  rw [← hW, ← hX]
  clear hW hX
  go_upto_if 8 with fail
  go_cut [3] from 3 to 8 (fun p wc => p = .string (dashS r.pos) ∧ W = wc)
  case first =>
    cases he : r.pos.toList.isEmpty with
    | true =>
      have h := he
      rw [empty_of] at h
      have HDa := Lib.hid (show dashS r.pos = ⟨#[45]⟩ by unfold dashS; rw [if_pos (of_decide_eq_true h)])
      clear h
      go_wp2_with fail
      go_meet
      case rel => exact ⟨by rw [HDa.out], rfl⟩
    | false =>
      have h := he
      rw [empty_of] at h
      have HDa := Lib.hid (show dashS r.pos = r.pos by unfold dashS; rw [if_neg (of_decide_eq_false h)])
      clear h
      go_wp2_with fail
      go_meet
      case rel => exact ⟨by rw [HDa.out], rfl⟩
  case rest =>
  obtain ⟨rfl, rfl⟩ := hcut
  clear x2
  go_upto_region 4 with fail
  have hb0 := (Below.refl W.heap.size W).drew
  show Code.wp _ (Code.region 4 ops_23_4 true) _ _ _
  refine region_start 19 (fun w' => Below W.heap.size W w' ∧ w'.cell? ⟨X, 0, none⟩ = some (.string r.key) ∧ w'.cell? ⟨X, 1, none⟩ = some (.string r.stat) ∧ w'.cell? ⟨X, 2, none⟩ = some (.string r.pos) ∧ w'.cell? ⟨X, 3, none⟩ = some (.int .i64 r.kind) ∧ w'.cell? ⟨X, 4, none⟩ = some (.int .i64 r.many) ∧ w'.cell? ⟨X, 5, none⟩ = some (.int .i64 r.num) ∧ w'.cell? ⟨X, 6, none⟩ = some (.int .i64 r.den)) (by kernel_rfl) rfl ?_ (fun hHeld => ?_)
  · (exact HS.out _ (by first | assumption | exact hHeld.1 | exact below_step hHeld0 (by assumption) | exact below_step hHeld.1 (by assumption) | exact below_step hHeld.1 (below_alloc _ _)))
  refine take_to 0 9 #[true, false, false, false, false, false, false, false, false, false, false, false, false, false, false, false, false, false, false] (v := ?_) ops_23_4_0 rfl ops_23_4_ns (by kernel_rfl) (by kernel_rfl) (fun _ _ _ h => h) (by rfl) ?y0 (by assumption) ?_
  case y0 =>
    intro w hSw
    try dsimp only at hSw
    go_simp
    try with_reducible rfl
  simp only [List.set_cons_zero, List.set_cons_succ]
  refine take_to 1 10 #[true, true, false, false, false, false, false, false, false, false, false, false, false, false, false, false, false, false, false] (v := ?_) ops_23_4_1 rfl ops_23_4_ns (by kernel_rfl) (by kernel_rfl) (fun _ _ _ h => h) (by rfl) ?y1 (by assumption) ?_
  case y1 =>
    intro w hSw
    try dsimp only at hSw
    go_simp
    try with_reducible rfl
  simp only [List.set_cons_zero, List.set_cons_succ]
  refine take_to 2 11 #[true, true, true, false, false, false, false, false, false, false, false, false, false, false, false, false, false, false, false] (v := ?_) ops_23_4_2 rfl ops_23_4_ns (by kernel_rfl) (by kernel_rfl) (fun _ _ _ h => h) (by rfl) ?y2 (by assumption) ?_
  case y2 =>
    intro w hSw
    try dsimp only at hSw
    go_simp
    try with_reducible rfl
  simp only [List.set_cons_zero, List.set_cons_succ]
  refine take_to 3 12 #[true, true, true, true, false, false, false, false, false, false, false, false, false, false, false, false, false, false, false] (v := ?_) ops_23_4_3 rfl ops_23_4_ns (by kernel_rfl) (by kernel_rfl) (fun _ _ _ h => h) (by rfl) ?y3 (by assumption) ?_
  case y3 =>
    intro w hSw
    try dsimp only at hSw
    go_simp
    try with_reducible rfl
  simp only [List.set_cons_zero, List.set_cons_succ]
  refine take_to 4 13 #[true, true, true, true, true, false, false, false, false, false, false, false, false, false, false, false, false, false, false] (v := ?_) ops_23_4_4 rfl ops_23_4_ns (by kernel_rfl) (by kernel_rfl) (fun _ _ _ h => h) (by rfl) ?y4 (by assumption) ?_
  case y4 =>
    intro w hSw
    try dsimp only at hSw
    go_simp
    try with_reducible rfl
  simp only [List.set_cons_zero, List.set_cons_succ]
  refine take_to 6 15 #[true, true, true, true, true, false, true, false, false, false, false, false, false, false, false, false, false, false, false] (v := ?_) ops_23_4_6 rfl ops_23_4_ns (by kernel_rfl) (by kernel_rfl) (fun _ _ _ h => h) (by rfl) ?y6 (by assumption) ?_
  case y6 =>
    intro w hSw
    try dsimp only at hSw
    go_simp
    try with_reducible rfl
  simp only [List.set_cons_zero, List.set_cons_succ]
  refine take_to 7 16 #[true, true, true, true, true, false, true, true, false, false, false, false, false, false, false, false, false, false, false] (v := ?_) ops_23_4_7 rfl ops_23_4_ns (by kernel_rfl) (by kernel_rfl) (fun _ _ _ h => h) (by rfl) ?y7 (by assumption) ?_
  case y7 =>
    intro w hSw
    try dsimp only at hSw
    go_simp
    try with_reducible rfl
  simp only [List.set_cons_zero, List.set_cons_succ]
  refine take_to 8 17 #[true, true, true, true, true, false, true, true, true, false, false, false, false, false, false, false, false, false, false] (v := .int .i64 (k : Int)) ops_23_4_8 rfl ops_23_4_ns (by kernel_rfl) (by kernel_rfl) (fun _ _ _ h => h) (by rfl) ?y8 (by assumption) ?_
  case y8 =>
    intro w hSw
    try dsimp only at hSw
    go_simp
    all_goals (first | rfl | omega | (simp; done) | (simp; omega) | trace_state)
  simp only [List.set_cons_zero, List.set_cons_succ]
  refine take_to 11 20 #[true, true, true, true, true, false, true, true, true, false, false, true, false, false, false, false, false, false, false] (v := ?_) ops_23_4_11 rfl ops_23_4_ns (by kernel_rfl) (by kernel_rfl) (fun _ _ _ h => h) (by rfl) ?y11 (by assumption) ?_
  case y11 =>
    intro w hSw
    try dsimp only at hSw
    go_simp
    try with_reducible rfl
  simp only [List.set_cons_zero, List.set_cons_succ]
  refine take_to 12 21 #[true, true, true, true, true, false, true, true, true, false, false, true, true, false, false, false, false, false, false] (v := ?_) ops_23_4_12 rfl ops_23_4_ns (by kernel_rfl) (by kernel_rfl) (fun _ _ _ h => h) (by rfl) ?y12 (by assumption) ?_
  case y12 =>
    intro w hSw
    try dsimp only at hSw
    go_simp
    try with_reducible rfl
  simp only [List.set_cons_zero, List.set_cons_succ]
  refine take_to 14 23 #[true, true, true, true, true, false, true, true, true, false, false, true, true, false, true, false, false, false, false] (v := ?_) ops_23_4_14 rfl ops_23_4_ns (by kernel_rfl) (by kernel_rfl) (fun _ _ _ h => h) (by rfl) ?y14 (by assumption) ?_
  case y14 =>
    intro w hSw
    try dsimp only at hSw
    go_simp
    try with_reducible rfl
  simp only [List.set_cons_zero, List.set_cons_succ]
  refine take_to 15 24 #[true, true, true, true, true, false, true, true, true, false, false, true, true, false, true, true, false, false, false] (v := ?_) ops_23_4_15 rfl ops_23_4_ns (by kernel_rfl) (by kernel_rfl) (fun _ _ _ h => h) (by rfl) ?y15 (by assumption) ?_
  case y15 =>
    intro w hSw
    try dsimp only at hSw
    go_simp
    try with_reducible rfl
  simp only [List.set_cons_zero, List.set_cons_succ]
  refine run_to 5 #[true, true, true, true, true, true, true, true, true, false, false, true, true, false, true, true, false, false, false] ops_23_4_5 (by kernel_rfl) (by kernel_rfl) (by rfl) (fun K hK => ?_)
  go_simp
  refine (kinds_calls _).mono ?_
  rintro e wk' ⟨rfl, hwk⟩
  obtain ⟨wk, hwk0⟩ : ∃ wk, wk = W.drew := ⟨_, rfl⟩
  rw [← hwk0] at hwk ⊢
  have hb' : Below wk.heap.size wk wk' := by rw [hwk]; exact below_alloc wk _
  have kcell : wk'.cell? ⟨wk.heap.size, k, none⟩ = some (.string (kindS r.kind)) := by rw [hwk]; exact kinds_cell wk hk Hkd.out
  have hHeld0 : Below W.heap.size W wk := by rw [hwk0]; exact (Below.refl _ _).drew
  clear hwk hwk0
  go_wp2_with fail
  refine hK.out _ _ ?_ (fun hHeld => ?_)
  · (exact HS.out _ (by first | assumption | exact hHeld.1 | exact below_step hHeld0 (by assumption) | exact below_step hHeld.1 (by assumption) | exact below_step hHeld.1 (below_alloc _ _)))
  clear hK K
  try simp only [Act.put, List.setIfInBounds_toArray, List.set_cons_zero, List.set_cons_succ]
  obtain ⟨KB, hKB⟩ : ∃ KB, KB = wk.heap.size := ⟨_, rfl⟩
  rw [← hKB]
  rw [← hKB] at kcell
  clear hKB
  have HS2 := Lib.hid (show ∀ w', Below W.heap.size W w' → w'.cell? ⟨KB, k, none⟩ = some (.string (kindS r.kind)) → ((Below W.heap.size W w' ∧ w'.cell? ⟨KB, k, none⟩ = some (.string (kindS r.kind))) ∧ w'.cell? ⟨X, 0, none⟩ = some (.string r.key) ∧ w'.cell? ⟨X, 1, none⟩ = some (.string r.stat) ∧ w'.cell? ⟨X, 2, none⟩ = some (.string r.pos) ∧ w'.cell? ⟨X, 3, none⟩ = some (.int .i64 r.kind) ∧ w'.cell? ⟨X, 4, none⟩ = some (.int .i64 r.many) ∧ w'.cell? ⟨X, 5, none⟩ = some (.int .i64 r.num) ∧ w'.cell? ⟨X, 6, none⟩ = some (.int .i64 r.den)) from fun w' hb h => ⟨⟨hb, h⟩, (HS.out w' hb).2⟩)
  refine held_mono (S' := fun w' => (Below W.heap.size W w' ∧ w'.cell? ⟨KB, k, none⟩ = some (.string (kindS r.kind))) ∧ w'.cell? ⟨X, 0, none⟩ = some (.string r.key) ∧ w'.cell? ⟨X, 1, none⟩ = some (.string r.stat) ∧ w'.cell? ⟨X, 2, none⟩ = some (.string r.pos) ∧ w'.cell? ⟨X, 3, none⟩ = some (.int .i64 r.kind) ∧ w'.cell? ⟨X, 4, none⟩ = some (.int .i64 r.many) ∧ w'.cell? ⟨X, 5, none⟩ = some (.int .i64 r.num) ∧ w'.cell? ⟨X, 6, none⟩ = some (.int .i64 r.den)) (fun w' h => ⟨h.1.1, h.2⟩) _ _ _ _ ?_
  replace hHeld := HS2.out _ hHeld.1 kcell
  refine take_to 9 18 #[true, true, true, true, true, true, true, true, true, true, false, true, true, false, true, true, false, false, false] (v := .pointer (some ⟨KB, k, none⟩)) ops_23_4_9 rfl ops_23_4_ns (by kernel_rfl) (by kernel_rfl) (fun _ _ _ h => h) (by rfl) ?y9 (by assumption) ?_
  case y9 =>
    intro w hSw
    try dsimp only at hSw
    go_simp
    all_goals (first | rfl | omega | (simp; done) | (simp; omega) | trace_state)
  simp only [List.set_cons_zero, List.set_cons_succ]
  refine take_to 10 19 #[true, true, true, true, true, true, true, true, true, true, true, true, true, false, true, true, false, false, false] (v := ?_) ops_23_4_10 rfl ops_23_4_ns (by kernel_rfl) (by kernel_rfl) (fun _ _ _ h => h) (by rfl) ?y10 (by assumption) ?_
  case y10 =>
    intro w hSw
    try dsimp only at hSw
    go_simp
    try with_reducible rfl
  simp only [List.set_cons_zero, List.set_cons_succ]
  refine run_to 13 #[true, true, true, true, true, true, true, true, true, true, true, true, true, true, true, true, false, false, false] ops_23_4_13 (by kernel_rfl) (by kernel_rfl) (by rfl) (fun K hK => ?_)
  go_simp
  refine (itoa_calls r.many _ hs64.1 (HD.out _ hHeld.1.1 _ (Below.refl _ _))).mono ?_
  rintro e w' ⟨rfl, hb'⟩
  go_wp2_with fail
  refine hK.out _ _ ?_ (fun hHeld => ?_)
  · (exact HS2.out _ (by first | exact below_step hHeld.1.1 (by assumption) | exact below_step hHeld.1.1 (below_alloc _ _) | exact hHeld.1.1) (by first | exact below_cell (by assumption) hHeld.1.2 | exact below_cell (below_alloc _ _) hHeld.1.2 | exact hHeld.1.2))
  clear hK K
  try simp only [Act.put, List.setIfInBounds_toArray, List.set_cons_zero, List.set_cons_succ]
  refine run_to 16 #[true, true, true, true, true, true, true, true, true, true, true, true, true, true, true, true, true, false, false] ops_23_4_16 (by kernel_rfl) (by kernel_rfl) (by rfl) (fun K hK => ?_)
  go_simp
  refine (write_calls r.num r.den _ hs64.2.1 hs64.2.2 (HD.out _ hHeld.1.1)).mono ?_
  rintro e w' ⟨rfl, hb'⟩
  go_wp2_with fail
  refine hK.out _ _ ?_ (fun hHeld => ?_)
  · (exact HS2.out _ (by first | exact below_step hHeld.1.1 (by assumption) | exact below_step hHeld.1.1 (below_alloc _ _) | exact hHeld.1.1) (by first | exact below_cell (by assumption) hHeld.1.2 | exact below_cell (below_alloc _ _) hHeld.1.2 | exact hHeld.1.2))
  clear hK K
  try simp only [Act.put, List.setIfInBounds_toArray, List.set_cons_zero, List.set_cons_succ]
  refine run_to 17 #[true, true, true, true, true, true, true, true, true, true, true, true, true, true, true, true, true, true, false] ops_23_4_17 (by kernel_rfl) (by kernel_rfl) (by rfl) (fun K hK => ?_)
  go_simp
  refine hK.out _ _ ?_ (fun hHeld => ?_)
  · (exact HS2.out _ (by first | exact below_step hHeld.1.1 (by assumption) | exact below_step hHeld.1.1 (below_alloc _ _) | exact hHeld.1.1) (by first | exact below_cell (by assumption) hHeld.1.2 | exact below_cell (below_alloc _ _) hHeld.1.2 | exact hHeld.1.2))
  clear hK K
  try simp only [Act.put, List.setIfInBounds_toArray, List.set_cons_zero, List.set_cons_succ]
  refine take_to 18 4 #[true, true, true, true, true, true, true, true, true, true, true, true, true, true, true, true, true, true, true] (v := ?_) ops_23_4_18 rfl ops_23_4_ns (by kernel_rfl) (by kernel_rfl) (fun _ _ _ h => h) (by rfl) ?y18 (by assumption) ?_
  case y18 =>
    intro w hSw
    try dsimp only at hSw
    go_simp
    try with_reducible rfl
  simp only [List.set_cons_zero, List.set_cons_succ]
  refine wpAnyH_done (by kernel_rfl) ?_ _
  have HwQ := Lib.hid (below_step HwW.out hHeld.1.1)
  have HC := Lib.hid (joinW_calls _ _ (ruleW r) _ (strs_new w' (ruleW r) (Nat.le_of_ble_eq_true rfl)) (Nat.le_of_ble_eq_true rfl) (ruleW_small Hs.out))
  unfold ruleW at HC
  simp only [List.map_cons, List.map_nil, List.length_cons, List.length_nil] at HC
  clear hHeld hb0 Hs hs64 hwr hHeld0
  go_wp2_with fail
  refine HC.out.mono ?_
  rintro e w9 ⟨rfl, hb9⟩
  have Hb9 := Lib.hid (below_step HwQ.out hb9)
  clear hb9 HC
  go_wp2_with fail
  go_ret
  exact ⟨rfl, Hb9.out⟩
/-- Rules written, a line each. -/
def bytesRl (rs : List RD) : List UInt8 := rs.flatMap fun r => (lineR r).data.toList ++ [10]
def textRl (rs : List RD) : ByteArray := ⟨(bytesRl rs).toArray⟩
theorem bytesRl_snoc {rs : List RD} {k : Nat} {r : RD} (h : rs[k]? = some r) : bytesRl (rs.take (k + 1)) = bytesRl (rs.take k) ++ ((lineR r).data.toList ++ [10]) := by
  unfold bytesRl
  rw [List.take_add_one, h, List.flatMap_append]
  simp
theorem textRl_snoc {rs : List RD} {k : Nat} {r : RD} (h : rs[k]? = some r) : textRl (rs.take (k + 1)) = textRl (rs.take k) ++ (lineR r ++ ⟨#[10]⟩) := by
  unfold textRl
  rw [bytesRl_snoc h]
  apply ByteArray.ext
  rw [ByteArray.data_append, ByteArray.data_append]
  simp
theorem bytesRl_len {rs : List RD} (h : ∀ r ∈ rs, SmallR r) : (bytesRl rs).length ≤ rs.length * 6007 := by
  induction rs with
  | nil => simp [bytesRl]
  | cons r rs ih =>
    have h1 := lineR_size (h r (by simp))
    have h2 := ih fun x hx => h x (by simp [hx])
    have e : bytesRl (r :: rs) = ((lineR r).data.toList ++ [10]) ++ bytesRl rs := by simp [bytesRl]
    rw [e, List.length_append, List.length_append, len_size, List.length_cons]
    simp only [List.length_cons, List.length_nil]
    omega
theorem textRl_size (rs : List RD) : (textRl rs).size = (bytesRl rs).length := by show (List.toArray _).size = _; simp
theorem Bld.below {B b : Nat} {bs : List Value} {w w' : World} (h : Bld B b bs w) (hb : Below w.heap.size w w') : Bld B b bs w' := by
  have key : ∀ p, Lib.BuilderAt 89 5 B b p bs w → Lib.BuilderAt 89 5 B b p bs w' := by
    rintro p ⟨h1, v, h2, h3, h4⟩
    exact ⟨h1, v, (hb.block b (lt_of_heap h2)).trans h2, World.ownsRow.kept h3 (gb_below hb none) (by cases hv : v.ownBlock <;> simp), h4⟩
  rcases h with h | h
  · exact .inl (key _ h)
  · exact .inr (key _ h)
theorem byteCells_len (l : List UInt8) : (Lib.byteCells l).length = l.length := by unfold Lib.byteCells; rw [List.length_map]
theorem byteCells_line (l : List UInt8) (s : ByteArray) : Lib.byteCells l ++ Lib.strCells s ++ [.int .u8 10] = Lib.byteCells (l ++ (s.data.toList ++ [10])) := by
  unfold Lib.byteCells Lib.strCells
  simp
theorem bytesRl_take {rs : List RD} (k : Nat) : (bytesRl (rs.take k)).length ≤ (bytesRl rs).length := by
  have e : bytesRl rs = bytesRl (rs.take k) ++ bytesRl (rs.drop k) := by unfold bytesRl; rw [← List.flatMap_append, List.take_append_drop]
  rw [e, List.length_append]; omega
set_option maxRecDepth 100000 in
set_option maxHeartbeats 4000000 in
theorem writeRl_calls (lo : Nat) (v : Value) (rs : List RD) (w : World) (hR : Rls w lo v rs) (hs : ∀ r ∈ rs, SmallR r) (hn : rs.length ≤ 10) (hk : ∀ r ∈ rs, 1 ≤ r.kind ∧ r.kind ≤ 4) (hD : DigB w) :
    Calls Tryz.prog 22 #[v, .func (.func 23) #[] #[]] w fun e w' => e = .returned (.tuple #[.string (textRl rs), .int .i64 0]) ∧ Below w.heap.size w w' := by
  have hbl := bytesRl_len hs
  have Hle := Lib.hid (fun k => bytesRl_take (rs := rs) k)
  have hb60 : (bytesRl rs).length ≤ 60070 := Nat.le_trans hbl (Nat.le_trans (Nat.mul_le_mul_right 6007 hn) (by decide))
  have hfr := Lib.fresh_isBuilder 89 5 w
  have Hat := Lib.hid (rls_at hR)
  obtain ⟨ra, rc, rfl⟩ := rls_shape hR
  have HF := Lib.hid hfr
  have HC := Lib.hid (fun (r : RD) (hm : r ∈ rs) w' (hb : Below w.heap.size w w') => ruleLine_calls r w' (hs r hm) (hk r hm) (hD.below hb))
  have HSz := Lib.hid (fun (r : RD) (hm : r ∈ rs) => lineR_size (hs r hm))
  clear hR hs hfr hk hD hbl hn
  unfold rlV at HC
  go_enter Tryz.func22, Tryz.ntmps22
  go_wp2_with fail
  go_loopw [11] (fun i wr => ∃ k : Nat, k ≤ rs.length ∧ i = .int .i64 k ∧ Hid (Bld w.heap.size w.heap.size (Lib.byteCells (bytesRl (rs.take k))) wr) ∧ Below w.heap.size w wr ∧ w.heap.size < wr.heap.size) (fun i _ => rs.length - (intOf i).toNat)
  case atStart => exact ⟨0, Nat.zero_le _, rfl, HF, below_alloc w _, by simp⟩
  case round =>
    obtain ⟨k, hk, rfl, HB, hb, hsz⟩ := hrel
    by_cases hlt : k < rs.length
    · obtain ⟨r, hr⟩ : ∃ r, rs[k]? = some r := ⟨rs[k], List.getElem?_eq_getElem hlt⟩
      have hm := List.mem_of_getElem? hr
      rcases Hat.out with ⟨_, h⟩ | ⟨g, off, cap, e, _, hg, _, hcell⟩
      · rw [h] at hlt; simp at hlt
      simp only [Value.slice.injEq] at e
      obtain ⟨rfl, -, rfl⟩ := e
      obtain ⟨q0, q1, q2, q3, q4, q5, q6⟩ := hcell k r hr
      have p0 := below_cell hb q0
      have p1 := below_cell hb q1
      have p2 := below_cell hb q2
      have p3 := below_cell hb q3
      have p4 := below_cell hb q4
      have p5 := below_cell hb q5
      have p6 := below_cell hb q6
      have hlen := HSz.out r hm
      have Hsn := Lib.hid (bytesRl_snoc hr)
      have h1 := Hle.out k
      obtain ⟨W1, hW1⟩ : ∃ W1, W1 = wr.alloc (.cells #[.string r.key, .string r.stat, .string r.pos, .int .i64 r.kind, .int .i64 r.many, .int .i64 r.num, .int .i64 r.den] 40) := ⟨_, rfl⟩
      have hb1 : Below wr.heap.size wr W1 := by rw [hW1]; exact below_alloc wr _
      have hx : W1.heap[wr.heap.size]? = some (.cells #[.string r.key, .string r.stat, .string r.pos, .int .i64 r.kind, .int .i64 r.many, .int .i64 r.num, .int .i64 r.den] 40 (0, 0)) := by rw [hW1]; exact heap_alloc_new wr _
      have hbw1 := hb.trans (hb1.mono (by omega))
      have C1 := Lib.hid (HC.out r hm W1 hbw1)
      have HB1 := Lib.hid (HB.out.below hb1)
      have y0 := cell_at hx 0 rfl
      have y1 := cell_at hx 1 rfl
      have y2 := cell_at hx 2 rfl
      have y3 := cell_at hx 3 rfl
      have y4 := cell_at hx 4 rfl
      have y5 := cell_at hx 5 rfl
      have y6 := cell_at hx 6 rfl
      have hs1 := hb1.size
      have HW1 := Lib.hid hW1
      clear hr hm hcell hx hW1 hb1 hb HB q0 q1 q2 q3 q4 q5 q6
      go_upto_region 5 with fail
      rw [← HW1.out]
      clear HW1 p0 p1 p2 p3 p4 p5 p6
      go_wp2_with fail
      refine C1.out.mono ?_
      rintro e w2 ⟨rfl, hb2⟩
      have HB2 := Lib.hid (HB1.out.below hb2)
      have hbw2 := hbw1.trans (hb2.mono (by omega))
      have hs2 := hb2.size
      clear HB1 hbw1 hb2 y0 y1 y2 y3 y4 y5 y6 C1
      generalize lineR r = L at hlen Hsn ⊢
      go_wp2_with fail
      refine (writeString_calls w.heap.size w.heap.size _ L w2 HB2.out (by rw [byteCells_len]; omega) (by omega)).mono ?_
      rintro e w3 ⟨rfl, hB3, hb3⟩
      have hbw3 := hbw2.trans hb3
      have hs3 := hb3.size
      clear HB2 hbw2 hb3
      go_wp2_with fail
      refine (writeByte_calls w.heap.size w.heap.size _ 10 w3 hB3 (by rw [List.length_append, byteCells_len, Lib.strCells_length]; omega) (by omega)).mono ?_
      rintro e w4 ⟨rfl, hB4, hb4⟩
      have hbw4 := hbw3.trans hb4
      have hs4 := hb4.size
      rw [byteCells_line, ← Hsn.out] at hB4
      have HB4 := Lib.hid hB4
      clear hB3 hbw3 hb4 hB4
      go_wp2_with fail
      go_roundw
      case rel => exact ⟨k + 1, by omega, by go_num, HB4, hbw4, by omega⟩
      case measure => simp [intOf]; omega
    · obtain rfl : k = rs.length := by omega
      have hT := Lib.hid (List.take_length (l := rs))
      have hB := HB.out
      rw [hT.out] at hB
      have C1 := Lib.hid (Tryz.Builder_Len w.heap.size w.heap.size _ wr hB)
      have C2 := Lib.hid (fun wx (h : wx = wr) => Tryz.Builder_String_any w.heap.size w.heap.size (bytesRl rs) wx (by rw [h]; exact hB) (by rw [h]; omega))
      have HTx := Lib.hid (show textRl rs = ⟨(bytesRl rs).toArray⟩ from rfl)
      clear hB HB
      go_wp2_with fail
      refine C1.out.mono ?_
      rintro e w2 ⟨rfl, rfl⟩
      rw [byteCells_len]
      have hd : decide ((200000 : Int) < ((bytesRl rs).length : Int)) = false := decide_eq_false (by omega)
      clear C1 hb60
      go_wp2_with fail
      refine (C2.out _ rfl).mono ?_
      rintro e w3 ⟨rfl, hb3⟩
      go_wp2_with fail
      go_ret2
      rw [HTx.out]
      exact ⟨rfl, hb.trans hb3⟩
end Go.Proofs.YtmejjkicagkogaaGreatDoor
