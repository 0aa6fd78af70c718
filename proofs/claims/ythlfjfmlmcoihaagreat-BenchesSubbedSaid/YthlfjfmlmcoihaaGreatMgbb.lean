/- Subbed: who comes in from the bench. -/
import Derived.Test.YthlfjfmlmcoihaaGreatMgaz
import Derived.Test.YthlfjfmlmcoihaaGreatMgba
import Derived.Test.YthlfjfmlmcoihaaGreatMgac
namespace Go.Proofs.YthlfjfmlmcoihaaGreat
open Go.RowKit

/-- Can somebody of the bench come in? -/
def sbP (cs : List ScD) (s : SlD) (fs : List FiD) (b : ByteArray) : Bool := (fndC cs b).played && suitB (fndC cs b) s && !inF fs b
def sbStep (cs : List ScD) (ks : List ByteArray) (s : SlD) (i : Nat) (fs : List FiD) : List FiD :=
  if (fndC cs (fiAt fs i).who).played then fs else match ks.find? (sbP cs s fs) with
    | none => fs
    | some b => fs.set i ⟨(fiAt fs i).slot, b⟩
def sbTo (cs : List ScD) (ks : List ByteArray) (ss : List SlD) (fs : List FiD) : Nat → List FiD
  | 0 => fs
  | k + 1 => sbStep cs ks (slAt ss k) k (sbTo cs ks ss fs k)
theorem sbStep_len (cs : List ScD) (ks : List ByteArray) (s : SlD) (i : Nat) (fs : List FiD) : (sbStep cs ks s i fs).length = fs.length := by
  unfold sbStep
  split
  · rfl
  · split <;> simp
theorem sbTo_len (cs : List ScD) (ks : List ByteArray) (ss : List SlD) (fs : List FiD) : ∀ k, (sbTo cs ks ss fs k).length = fs.length
  | 0 => rfl
  | k + 1 => by rw [sbTo, sbStep_len, sbTo_len cs ks ss fs k]
theorem sb_played {cs : List ScD} {ks : List ByteArray} {s : SlD} {i : Nat} {fs : List FiD} {f : FiD} (hf : fs[i]? = some f) (h : (fndC cs f.who).played = true) : sbStep cs ks s i fs = fs := by
  unfold sbStep; rw [fiAt_some hf, if_pos h]
theorem sb_none {cs : List ScD} {ks : List ByteArray} {s : SlD} {i : Nat} {fs : List FiD} {f : FiD} (hf : fs[i]? = some f) (h : (fndC cs f.who).played = false) (h0 : ∀ k ∈ ks, sbP cs s fs k = false) : sbStep cs ks s i fs = fs := by
  unfold sbStep; rw [fiAt_some hf, if_neg (by rw [h]; simp), List.find?_eq_none.2 fun x hx => by rw [h0 x hx]; simp]
theorem find_first {α : Type} {p : α → Bool} {ks : List α} {j : Nat} {b : α} (hb : ks[j]? = some b) (hp : p b = true) (h0 : ∀ q g, q < j → ks[q]? = some g → p g = false) : ks.find? p = some b := by
  induction ks generalizing j with
  | nil => simp at hb
  | cons k ks ih =>
    cases j with
    | zero => simp at hb; subst hb; simp [hp]
    | succ j =>
      have hk := h0 0 k (by omega) rfl
      rw [List.find?_cons, hk]
      exact ih (by simpa using hb) fun q g hq hg => h0 (q + 1) g (by omega) (by simpa using hg)
theorem sb_some {cs : List ScD} {ks : List ByteArray} {s : SlD} {i j : Nat} {fs : List FiD} {f : FiD} {b : ByteArray} (hf : fs[i]? = some f) (h : (fndC cs f.who).played = false) (hb : ks[j]? = some b) (hp : sbP cs s fs b = true) (h0 : ∀ q g, q < j → ks[q]? = some g → sbP cs s fs g = false) : sbStep cs ks s i fs = fs.set i ⟨f.slot, b⟩ := by
  unfold sbStep; rw [fiAt_some hf, if_neg (by rw [h]; simp), find_first hb hp h0]
set_option maxRecDepth 100000 in
set_option maxHeartbeats 4000000 in
theorem subbed1_calls (lo lo' lo3 b1 X13 b3 : Nat) (v u pv : Value) (cs : List ScD) (s : SlD) (fs : List FiD) (b : ByteArray) (w : World) (h1 : w.cell? ⟨b1, 0, none⟩ = some v) (hC : Scs w lo v cs) (hlo : lo ≤ w.heap.size)
    (h2 : w.cell? ⟨X13, 0, none⟩ = some (.string s.key)) (h2' : w.cell? ⟨X13, 1, none⟩ = some pv) (hpv : Strs w lo' pv s.pos) (h3 : w.cell? ⟨b3, 0, none⟩ = some u) (hF : Fis w lo3 u fs) :
    Calls Tryz.prog 95 #[.string b, .pointer (some ⟨b1, 0, none⟩), .pointer (some ⟨X13, 0, none⟩), .pointer (some ⟨b3, 0, none⟩)] w (BoolIs (sbP cs s fs b) w) := by
  have CF := Lib.hid (find_calls lo v cs b w hC hlo)
  have HF := Lib.hid hF
  have Hpv := Lib.hid hpv
  have HP := Lib.hid (show sbP cs s fs b = ((fndC cs b).played && suitB (fndC cs b) s && !inF fs b) from rfl)
  obtain ⟨a, c, rfl⟩ := NRows.shape hC
  obtain ⟨fa, fc, rfl⟩ := fis_shape hF
  obtain ⟨pa, pc, rfl⟩ := strs_shape hpv
  generalize knownB (cs.map ScD.who) b = KB at CF
  generalize fndC cs b = Fc at CF HP
  generalize sbP cs s fs b = R at HP ⊢
  clear hC hF hpv
  go_enter Tryz.func95, Tryz.ntmps95
  go_wp2_with fail
  refine CF.out.mono ?_
  rintro e w1 ⟨x, rfl, hx, hb1⟩
  have Hx := Lib.hid hx
  obtain ⟨xa, xc, rfl⟩ := strs_shape hx
  clear CF hx
  have h2 := below_cell hb1 h2
  have h2' := below_cell hb1 h2'
  have h3 := below_cell hb1 h3
  go_upto_region 2 with fail
  obtain ⟨W, hW⟩ : ∃ W, W = w1.alloc (.cells #[.string Fc.who, .slice xa Fc.pos.length xc, .int .i64 Fc.num, .int .i64 Fc.den, .bool Fc.played] 83) := ⟨_, rfl⟩
  have hx6 : W.heap[w1.heap.size]? = some (.cells #[.string Fc.who, .slice xa Fc.pos.length xc, .int .i64 Fc.num, .int .i64 Fc.den, .bool Fc.played] 83 (0, 0)) := by rw [hW]; exact heap_alloc_new w1 _
  have hb2 : Below w1.heap.size w1 W := by rw [hW]; exact below_alloc w1 _
  rw [← hW]
  have y0 := cell_at hx6 0 rfl
  have y1 := cell_at hx6 1 rfl
  have y2 := cell_at hx6 2 rfl
  have y3 := cell_at hx6 3 rfl
  have y4 := cell_at hx6 4 rfl
  have h2 := below_cell hb2 h2
  have h2' := below_cell hb2 h2'
  have h3 := below_cell hb2 h3
  have hbW := below_step hb1 hb2
  generalize hX6 : w1.heap.size = X6 at y0 y1 y2 y3 y4 ⊢
  have HX := Lib.hid (Hx.out.below (by rw [hX6]; exact hX6 ▸ hb2))
  clear hW hx6 hX6 Hx hb1
  cases hp : Fc.played
  · rw [hp] at HP y4
    go_wp2_with fail
    go_ret
    exact ⟨ret_bool (by rw [HP.out]; rfl), hbW⟩
  · rw [hp] at HP y4
    go_wp2_with fail
    refine (suits_calls _ _ (.slice xa Fc.pos.length xc) (.slice pa s.pos.length pc) { Fc with played := true } s _ HX.out (Hpv.out.below hbW)).mono ?_
    rintro e w3 ⟨rfl, hb3⟩
    rw [show suitB { Fc with played := true } s = suitB Fc s from rfl]
    have h3 := below_cell hb3 h3
    have hbw3 := below_step hbW hb3
    clear h2 h2' y0 y1 y2 y3 y4
    cases hs : suitB Fc s
    · rw [hs] at HP
      clear hs
      go_wp2_with fail
      go_ret
      exact ⟨ret_bool (by rw [HP.out]; rfl), hbw3⟩
    · rw [hs] at HP
      clear hs
      go_wp2_with fail
      refine (fielded_calls lo3 _ fs b _ (HF.out.below hbw3)).mono ?_
      rintro e w4 ⟨rfl, hb4⟩
      go_wp2_with fail
      go_ret
      exact ⟨ret_bool (by rw [HP.out]; rfl), below_step hbw3 hb4⟩
theorem first2_zero {a b : Int} (h : firstE [a, b] = 0) : a = 0 ∧ b = 0 := by
  unfold firstE at h
  by_cases ha : a = 0
  · refine ⟨ha, ?_⟩
    unfold firstE at h
    by_cases hb : b = 0
    · exact hb
    · simp [ha, hb] at h
  · simp [ha] at h
theorem chk_len {ss : List SlD} {cs : List ScD} {fs : List FiD} (h : chkFi ss cs fs = 0) : fs.length = ss.length ∧ 0 < ss.length ∧ sdE ss cs = 0 := by
  unfold chkFi at h
  split at h
  · rename_i h0
    obtain ⟨h1, h2⟩ := first2_zero h0
    refine ⟨?_, ?_, h1⟩
    · by_cases hl : fs.length = ss.length
      · exact hl
      · have e : ((fs.length : Int) == (ss.length : Int)) = false := by rw [beq_eq_false_iff_ne]; omega
        rw [e] at h2
        simp [unlessE] at h2
    · have h3 := (first2_zero (first2_zero h1).1).1
      by_cases hl : 0 < ss.length
      · exact hl
      · rw [decide_eq_false hl] at h3
        simp [unlessE] at h3
  · rename_i h0
    exact absurd h h0
def sbE (ss : List SlD) (cs : List ScD) (fs : List FiD) (ks : List ByteArray) : Int := firstE [chkFi ss cs fs, wnE cs fs ks]
def sbL (ss : List SlD) (cs : List ScD) (fs : List FiD) (ks : List ByteArray) : List FiD := if sbE ss cs fs ks = 0 then sbTo cs ks ss fs ss.length else []
def SbV (ss : List SlD) (cs : List ScD) (fs : List FiD) (ks : List ByteArray) (w : World) (e : Ending) (w' : World) : Prop :=
  ∃ v', e = .returned (.tuple #[v', .int .i64 (sbE ss cs fs ks)]) ∧ Fis w' w.heap.size v' (sbL ss cs fs ks) ∧ Below w.heap.size w w'
theorem fis_nil (w : World) (lo : Nat) : Fis w lo (.slice none 0 0) [] := ⟨by simp, by simp, .inl ⟨rfl, rfl⟩⟩
theorem below_set {b X o : Nat} {w w' : World} (h : Below b w w') (hX : b ≤ X) (a : Value) : Below b w (w'.setCell ⟨X, o, none⟩ a) := h.setCell (p := ⟨X, o, none⟩) hX a
def ops_41_1 : Array Go.Oper := #[
  { dst := some 15, op := Go.Op.move (Go.Operand.tmp 0), type := 26, pos := "lineup.go:96", after := #[], guard := none },
  { dst := some 16, op := Go.Op.load 28 (Go.Operand.tmp 5), type := 28, pos := "lineup.go:96", after := #[], guard := none },
  { dst := some 17, op := Go.Op.move (Go.Operand.tmp 2), type := 30, pos := "lineup.go:96", after := #[], guard := none },
  { dst := some 18, op := Go.Op.call { callee := Go.Callee.value (Go.Operand.func 26), args := #[Go.Operand.tmp 15, Go.Operand.tmp 16, Go.Operand.tmp 17], argTypes := #[26, 28, 30] }, type := 35, pos := "lineup.go:96", after := #[{ on := 0, ground := Go.Ground.data }, { on := 1, ground := Go.Ground.data }, { on := 2, ground := Go.Ground.data }], guard := none },
  { dst := some 19, op := Go.Op.load 28 (Go.Operand.tmp 5), type := 28, pos := "lineup.go:96", after := #[], guard := none },
  { dst := some 20, op := Go.Op.move (Go.Operand.tmp 2), type := 30, pos := "lineup.go:96", after := #[], guard := none },
  { dst := some 21, op := Go.Op.move (Go.Operand.tmp 3), type := 39, pos := "lineup.go:96", after := #[], guard := none },
  { dst := some 22, op := Go.Op.call { callee := Go.Callee.value (Go.Operand.func 86), args := #[Go.Operand.tmp 19, Go.Operand.tmp 20, Go.Operand.tmp 21], argTypes := #[28, 30, 39] }, type := 35, pos := "lineup.go:96", after := #[{ on := 4, ground := Go.Ground.data }, { on := 5, ground := Go.Ground.data }, { on := 6, ground := Go.Ground.data }, { on := 3, ground := Go.Ground.chain }], guard := none },
  { dst := some 23, op := Go.Op.buildSlice 95 2 #[(0, Go.Operand.tmp 18), (1, Go.Operand.tmp 22)], type := 95, pos := "lineup.go:96", after := #[{ on := 3, ground := Go.Ground.data }, { on := 7, ground := Go.Ground.data }], guard := none },
  { dst := some 24, op := Go.Op.call { callee := Go.Callee.value (Go.Operand.func 53), args := #[Go.Operand.tmp 23], argTypes := #[95] }, type := 35, pos := "lineup.go:96", after := #[{ on := 8, ground := Go.Ground.data }, { on := 7, ground := Go.Ground.chain }], guard := none },
  { dst := some 10, op := Go.Op.assign (Go.Operand.tmp 24), type := 35, pos := "lineup.go:96", after := #[{ on := 9, ground := Go.Ground.data }, { on := 9, ground := Go.Ground.chain }, { on := 0, ground := Go.Ground.phase }, { on := 1, ground := Go.Ground.phase }, { on := 2, ground := Go.Ground.phase }, { on := 3, ground := Go.Ground.phase }, { on := 4, ground := Go.Ground.phase }, { on := 5, ground := Go.Ground.phase }, { on := 6, ground := Go.Ground.phase }, { on := 7, ground := Go.Ground.phase }, { on := 8, ground := Go.Ground.phase }, { on := 9, ground := Go.Ground.phase }], guard := none }]
theorem ops_41_1_0 : ops_41_1[0]? = some ({ dst := some 15, op := Go.Op.move (Go.Operand.tmp 0), type := 26, pos := "lineup.go:96", after := #[], guard := none } : Go.Oper) := rfl
theorem ops_41_1_1 : ops_41_1[1]? = some ({ dst := some 16, op := Go.Op.load 28 (Go.Operand.tmp 5), type := 28, pos := "lineup.go:96", after := #[], guard := none } : Go.Oper) := rfl
theorem ops_41_1_2 : ops_41_1[2]? = some ({ dst := some 17, op := Go.Op.move (Go.Operand.tmp 2), type := 30, pos := "lineup.go:96", after := #[], guard := none } : Go.Oper) := rfl
theorem ops_41_1_3 : ops_41_1[3]? = some ({ dst := some 18, op := Go.Op.call { callee := Go.Callee.value (Go.Operand.func 26), args := #[Go.Operand.tmp 15, Go.Operand.tmp 16, Go.Operand.tmp 17], argTypes := #[26, 28, 30] }, type := 35, pos := "lineup.go:96", after := #[{ on := 0, ground := Go.Ground.data }, { on := 1, ground := Go.Ground.data }, { on := 2, ground := Go.Ground.data }], guard := none } : Go.Oper) := rfl
theorem ops_41_1_4 : ops_41_1[4]? = some ({ dst := some 19, op := Go.Op.load 28 (Go.Operand.tmp 5), type := 28, pos := "lineup.go:96", after := #[], guard := none } : Go.Oper) := rfl
theorem ops_41_1_5 : ops_41_1[5]? = some ({ dst := some 20, op := Go.Op.move (Go.Operand.tmp 2), type := 30, pos := "lineup.go:96", after := #[], guard := none } : Go.Oper) := rfl
theorem ops_41_1_6 : ops_41_1[6]? = some ({ dst := some 21, op := Go.Op.move (Go.Operand.tmp 3), type := 39, pos := "lineup.go:96", after := #[], guard := none } : Go.Oper) := rfl
theorem ops_41_1_7 : ops_41_1[7]? = some ({ dst := some 22, op := Go.Op.call { callee := Go.Callee.value (Go.Operand.func 86), args := #[Go.Operand.tmp 19, Go.Operand.tmp 20, Go.Operand.tmp 21], argTypes := #[28, 30, 39] }, type := 35, pos := "lineup.go:96", after := #[{ on := 4, ground := Go.Ground.data }, { on := 5, ground := Go.Ground.data }, { on := 6, ground := Go.Ground.data }, { on := 3, ground := Go.Ground.chain }], guard := none } : Go.Oper) := rfl
theorem ops_41_1_8 : ops_41_1[8]? = some ({ dst := some 23, op := Go.Op.buildSlice 95 2 #[(0, Go.Operand.tmp 18), (1, Go.Operand.tmp 22)], type := 95, pos := "lineup.go:96", after := #[{ on := 3, ground := Go.Ground.data }, { on := 7, ground := Go.Ground.data }], guard := none } : Go.Oper) := rfl
theorem ops_41_1_9 : ops_41_1[9]? = some ({ dst := some 24, op := Go.Op.call { callee := Go.Callee.value (Go.Operand.func 53), args := #[Go.Operand.tmp 23], argTypes := #[95] }, type := 35, pos := "lineup.go:96", after := #[{ on := 8, ground := Go.Ground.data }, { on := 7, ground := Go.Ground.chain }], guard := none } : Go.Oper) := rfl
theorem ops_41_1_10 : ops_41_1[10]? = some ({ dst := some 10, op := Go.Op.assign (Go.Operand.tmp 24), type := 35, pos := "lineup.go:96", after := #[{ on := 9, ground := Go.Ground.data }, { on := 9, ground := Go.Ground.chain }, { on := 0, ground := Go.Ground.phase }, { on := 1, ground := Go.Ground.phase }, { on := 2, ground := Go.Ground.phase }, { on := 3, ground := Go.Ground.phase }, { on := 4, ground := Go.Ground.phase }, { on := 5, ground := Go.Ground.phase }, { on := 6, ground := Go.Ground.phase }, { on := 7, ground := Go.Ground.phase }, { on := 8, ground := Go.Ground.phase }, { on := 9, ground := Go.Ground.phase }], guard := none } : Go.Oper) := rfl
theorem ops_41_1_ns : Go.Region.noSelect ops_41_1 = true := by kernel_rfl
def ops_41_8 : Array Go.Oper := #[
  { dst := some 37, op := Go.Op.load 28 (Go.Operand.tmp 5), type := 28, pos := "lineup.go:101", after := #[], guard := none },
  { dst := some 38, op := Go.Op.load 30 (Go.Operand.tmp 11), type := 30, pos := "lineup.go:101", after := #[], guard := none },
  { dst := some 39, op := Go.Op.move (Go.Operand.tmp 12), type := 3, pos := "lineup.go:101", after := #[], guard := none },
  { dst := some 40, op := Go.Op.indexAddr 30 (Go.Operand.tmp 38) (Go.Operand.tmp 39), type := 0, pos := "lineup.go:101", after := #[{ on := 1, ground := Go.Ground.data }, { on := 2, ground := Go.Ground.data }], guard := none },
  { dst := some 41, op := Go.Op.fieldAddr 49 (Go.Operand.tmp 40) 1, type := 0, pos := "lineup.go:101", after := #[{ on := 3, ground := Go.Ground.data }], guard := none },
  { dst := some 42, op := Go.Op.load 9 (Go.Operand.tmp 41), type := 9, pos := "lineup.go:101", after := #[{ on := 4, ground := Go.Ground.data }], guard := none },
  { dst := some 43, op := Go.Op.call { callee := Go.Callee.value (Go.Operand.func 94), args := #[Go.Operand.tmp 37, Go.Operand.tmp 42], argTypes := #[28, 9] }, type := 4, pos := "lineup.go:101", after := #[{ on := 0, ground := Go.Ground.data }, { on := 5, ground := Go.Ground.data }], guard := none }]
theorem ops_41_8_0 : ops_41_8[0]? = some ({ dst := some 37, op := Go.Op.load 28 (Go.Operand.tmp 5), type := 28, pos := "lineup.go:101", after := #[], guard := none } : Go.Oper) := rfl
theorem ops_41_8_1 : ops_41_8[1]? = some ({ dst := some 38, op := Go.Op.load 30 (Go.Operand.tmp 11), type := 30, pos := "lineup.go:101", after := #[], guard := none } : Go.Oper) := rfl
theorem ops_41_8_2 : ops_41_8[2]? = some ({ dst := some 39, op := Go.Op.move (Go.Operand.tmp 12), type := 3, pos := "lineup.go:101", after := #[], guard := none } : Go.Oper) := rfl
theorem ops_41_8_3 : ops_41_8[3]? = some ({ dst := some 40, op := Go.Op.indexAddr 30 (Go.Operand.tmp 38) (Go.Operand.tmp 39), type := 0, pos := "lineup.go:101", after := #[{ on := 1, ground := Go.Ground.data }, { on := 2, ground := Go.Ground.data }], guard := none } : Go.Oper) := rfl
theorem ops_41_8_4 : ops_41_8[4]? = some ({ dst := some 41, op := Go.Op.fieldAddr 49 (Go.Operand.tmp 40) 1, type := 0, pos := "lineup.go:101", after := #[{ on := 3, ground := Go.Ground.data }], guard := none } : Go.Oper) := rfl
theorem ops_41_8_5 : ops_41_8[5]? = some ({ dst := some 42, op := Go.Op.load 9 (Go.Operand.tmp 41), type := 9, pos := "lineup.go:101", after := #[{ on := 4, ground := Go.Ground.data }], guard := none } : Go.Oper) := rfl
theorem ops_41_8_6 : ops_41_8[6]? = some ({ dst := some 43, op := Go.Op.call { callee := Go.Callee.value (Go.Operand.func 94), args := #[Go.Operand.tmp 37, Go.Operand.tmp 42], argTypes := #[28, 9] }, type := 4, pos := "lineup.go:101", after := #[{ on := 0, ground := Go.Ground.data }, { on := 5, ground := Go.Ground.data }], guard := none } : Go.Oper) := rfl
theorem ops_41_8_ns : Go.Region.noSelect ops_41_8 = true := by kernel_rfl
def ops_41_11 : Array Go.Oper := #[
  { dst := some 49, op := Go.Op.load 30 (Go.Operand.tmp 11), type := 30, pos := "lineup.go:109", after := #[], guard := none },
  { dst := some 50, op := Go.Op.move (Go.Operand.tmp 12), type := 3, pos := "lineup.go:109", after := #[], guard := none },
  { dst := some 51, op := Go.Op.move (Go.Operand.tmp 3), type := 39, pos := "lineup.go:109", after := #[], guard := none },
  { dst := some 52, op := Go.Op.move (Go.Operand.tmp 14), type := 3, pos := "lineup.go:109", after := #[], guard := none },
  { dst := some 53, op := Go.Op.indexAddr 39 (Go.Operand.tmp 51) (Go.Operand.tmp 52), type := 0, pos := "lineup.go:109", after := #[{ on := 2, ground := Go.Ground.data }, { on := 3, ground := Go.Ground.data }], guard := none },
  { dst := some 54, op := Go.Op.load 9 (Go.Operand.tmp 53), type := 9, pos := "lineup.go:109", after := #[{ on := 4, ground := Go.Ground.data }], guard := none },
  { dst := some 55, op := Go.Op.indexAddr 30 (Go.Operand.tmp 49) (Go.Operand.tmp 50), type := 0, pos := "lineup.go:109", after := #[{ on := 0, ground := Go.Ground.data }, { on := 1, ground := Go.Ground.data }, { on := 0, ground := Go.Ground.phase }, { on := 1, ground := Go.Ground.phase }, { on := 2, ground := Go.Ground.phase }, { on := 3, ground := Go.Ground.phase }, { on := 4, ground := Go.Ground.phase }, { on := 5, ground := Go.Ground.phase }], guard := none },
  { dst := some 56, op := Go.Op.fieldAddr 49 (Go.Operand.tmp 55) 1, type := 0, pos := "lineup.go:109", after := #[{ on := 6, ground := Go.Ground.data }, { on := 0, ground := Go.Ground.phase }, { on := 1, ground := Go.Ground.phase }, { on := 2, ground := Go.Ground.phase }, { on := 3, ground := Go.Ground.phase }, { on := 4, ground := Go.Ground.phase }, { on := 5, ground := Go.Ground.phase }], guard := none },
  { dst := none, op := Go.Op.store 9 (Go.Operand.tmp 56) (Go.Operand.tmp 54), type := 0, pos := "lineup.go:109", after := #[{ on := 7, ground := Go.Ground.data }, { on := 5, ground := Go.Ground.data }, { on := 0, ground := Go.Ground.phase }, { on := 1, ground := Go.Ground.phase }, { on := 2, ground := Go.Ground.phase }, { on := 3, ground := Go.Ground.phase }, { on := 4, ground := Go.Ground.phase }, { on := 5, ground := Go.Ground.phase }], guard := none }]
theorem ops_41_11_0 : ops_41_11[0]? = some ({ dst := some 49, op := Go.Op.load 30 (Go.Operand.tmp 11), type := 30, pos := "lineup.go:109", after := #[], guard := none } : Go.Oper) := rfl
theorem ops_41_11_1 : ops_41_11[1]? = some ({ dst := some 50, op := Go.Op.move (Go.Operand.tmp 12), type := 3, pos := "lineup.go:109", after := #[], guard := none } : Go.Oper) := rfl
theorem ops_41_11_2 : ops_41_11[2]? = some ({ dst := some 51, op := Go.Op.move (Go.Operand.tmp 3), type := 39, pos := "lineup.go:109", after := #[], guard := none } : Go.Oper) := rfl
theorem ops_41_11_3 : ops_41_11[3]? = some ({ dst := some 52, op := Go.Op.move (Go.Operand.tmp 14), type := 3, pos := "lineup.go:109", after := #[], guard := none } : Go.Oper) := rfl
theorem ops_41_11_4 : ops_41_11[4]? = some ({ dst := some 53, op := Go.Op.indexAddr 39 (Go.Operand.tmp 51) (Go.Operand.tmp 52), type := 0, pos := "lineup.go:109", after := #[{ on := 2, ground := Go.Ground.data }, { on := 3, ground := Go.Ground.data }], guard := none } : Go.Oper) := rfl
theorem ops_41_11_5 : ops_41_11[5]? = some ({ dst := some 54, op := Go.Op.load 9 (Go.Operand.tmp 53), type := 9, pos := "lineup.go:109", after := #[{ on := 4, ground := Go.Ground.data }], guard := none } : Go.Oper) := rfl
theorem ops_41_11_6 : ops_41_11[6]? = some ({ dst := some 55, op := Go.Op.indexAddr 30 (Go.Operand.tmp 49) (Go.Operand.tmp 50), type := 0, pos := "lineup.go:109", after := #[{ on := 0, ground := Go.Ground.data }, { on := 1, ground := Go.Ground.data }, { on := 0, ground := Go.Ground.phase }, { on := 1, ground := Go.Ground.phase }, { on := 2, ground := Go.Ground.phase }, { on := 3, ground := Go.Ground.phase }, { on := 4, ground := Go.Ground.phase }, { on := 5, ground := Go.Ground.phase }], guard := none } : Go.Oper) := rfl
theorem ops_41_11_7 : ops_41_11[7]? = some ({ dst := some 56, op := Go.Op.fieldAddr 49 (Go.Operand.tmp 55) 1, type := 0, pos := "lineup.go:109", after := #[{ on := 6, ground := Go.Ground.data }, { on := 0, ground := Go.Ground.phase }, { on := 1, ground := Go.Ground.phase }, { on := 2, ground := Go.Ground.phase }, { on := 3, ground := Go.Ground.phase }, { on := 4, ground := Go.Ground.phase }, { on := 5, ground := Go.Ground.phase }], guard := none } : Go.Oper) := rfl
theorem ops_41_11_8 : ops_41_11[8]? = some ({ dst := none, op := Go.Op.store 9 (Go.Operand.tmp 56) (Go.Operand.tmp 54), type := 0, pos := "lineup.go:109", after := #[{ on := 7, ground := Go.Ground.data }, { on := 5, ground := Go.Ground.data }, { on := 0, ground := Go.Ground.phase }, { on := 1, ground := Go.Ground.phase }, { on := 2, ground := Go.Ground.phase }, { on := 3, ground := Go.Ground.phase }, { on := 4, ground := Go.Ground.phase }, { on := 5, ground := Go.Ground.phase }], guard := none } : Go.Oper) := rfl
theorem ops_41_11_ns : Go.Region.noSelect ops_41_11 = true := by kernel_rfl
set_option maxRecDepth 100000 in
set_option maxHeartbeats 16000000 in
theorem subbed_calls (lo lo' lo3 lo4 : Nat) (v u z y : Value) (ss : List SlD) (cs : List ScD) (fs : List FiD) (ks : List ByteArray) (w : World) (hS : Sls w lo' v ss) (hs : ∀ c ∈ ss, SmallSl c) (hsn : ss.length ≤ 1000000) (hC : Scs w lo u cs) (hc : ∀ c ∈ cs, SmallSc c) (hcn : cs.length ≤ 1000000) (hlo : lo ≤ w.heap.size) (hF : Fis w lo3 z fs) (hfn : fs.length ≤ 1000000) (hK : Strs w lo4 y ks) (hkn : ks.length ≤ 1000000) :
    Calls Tryz.prog 41 #[v, u, z, y] w (SbV ss cs fs ks w) := by
  obtain ⟨W, hW⟩ : ∃ W, W = w.alloc (.cells #[u] 28) := ⟨_, rfl⟩
  have hwW : Below w.heap.size w W := by rw [hW]; exact below_alloc w _
  have hx5 : W.heap[w.heap.size]? = some (.cells #[u] 28 (0, 0)) := by rw [hW]; exact heap_alloc_new w _
  have hzW : W.heap.size = w.heap.size + 1 := by rw [hW]; simp
  have x5 := cell_at hx5 0 rfl
  have HS0 := Lib.hid hS
  have HC0 := Lib.hid hC
  have HF0 := Lib.hid hF
  have HK0 := Lib.hid hK
  have Hs := Lib.hid hs
  have Hc := Lib.hid hc
  have HlW := Lib.hid (show lo ≤ W.heap.size by omega)
  have HzW := Lib.hid hzW
  have Hx5 := Lib.hid hx5
  have HE := Lib.hid (show sbE ss cs fs ks = firstE [chkFi ss cs fs, wnE cs fs ks] from rfl)
  obtain ⟨sa, sc, rfl⟩ := NRows.shape hS
  obtain ⟨ca, cc, rfl⟩ := NRows.shape hC
  obtain ⟨fa, fc, rfl⟩ := fis_shape hF
  obtain ⟨ka, kc, rfl⟩ := strs_shape hK
  have HS1 := Lib.hid (show ∀ w', Below W.heap.size W w' → (Below W.heap.size W w' ∧ w'.cell? ⟨w.heap.size, 0, none⟩ = some (.slice ca cs.length cc)) from fun w' hb => ⟨hb, below_cell hb x5⟩)
  have hb0 := (Below.refl W.heap.size W).drew
  clear hS hC hF hK hs hc hzW hx5 x5
  go_enter Tryz.func41, Tryz.ntmps41
  go_upto_region 1 with fail
  rw [← hW]
  clear hW
  show Code.wp _ (Code.region 1 ops_41_1 true) _ _ _
  refine region_start 11 (fun w' => Below W.heap.size W w' ∧ w'.cell? ⟨w.heap.size, 0, none⟩ = some (.slice ca cs.length cc)) (by kernel_rfl) rfl ?_ (fun hHeld => ?_)
  · (exact HS1.out _ (by first | assumption | exact hHeld.1 | exact below_step hHeld.1 (by assumption) | exact below_step hHeld.1 (below_alloc _ _)))
  refine take_to 0 15 #[true, false, false, false, false, false, false, false, false, false, false] (v := ?_) ops_41_1_0 rfl ops_41_1_ns (by kernel_rfl) (by kernel_rfl) (fun _ _ _ h => h) (by rfl) ?y01 (by assumption) ?_
  case y01 =>
    intro w hSw
    try dsimp only at hSw
    go_simp
    try with_reducible rfl
  simp only [List.set_cons_zero, List.set_cons_succ]
  refine take_to 1 16 #[true, true, false, false, false, false, false, false, false, false, false] (v := ?_) ops_41_1_1 rfl ops_41_1_ns (by kernel_rfl) (by kernel_rfl) (fun _ _ _ h => h) (by rfl) ?y11 (by assumption) ?_
  case y11 =>
    intro w hSw
    try dsimp only at hSw
    go_simp
    try with_reducible rfl
  simp only [List.set_cons_zero, List.set_cons_succ]
  refine take_to 2 17 #[true, true, true, false, false, false, false, false, false, false, false] (v := ?_) ops_41_1_2 rfl ops_41_1_ns (by kernel_rfl) (by kernel_rfl) (fun _ _ _ h => h) (by rfl) ?y21 (by assumption) ?_
  case y21 =>
    intro w hSw
    try dsimp only at hSw
    go_simp
    try with_reducible rfl
  simp only [List.set_cons_zero, List.set_cons_succ]
  refine take_to 4 19 #[true, true, true, false, true, false, false, false, false, false, false] (v := ?_) ops_41_1_4 rfl ops_41_1_ns (by kernel_rfl) (by kernel_rfl) (fun _ _ _ h => h) (by rfl) ?y41 (by assumption) ?_
  case y41 =>
    intro w hSw
    try dsimp only at hSw
    go_simp
    try with_reducible rfl
  simp only [List.set_cons_zero, List.set_cons_succ]
  refine take_to 5 20 #[true, true, true, false, true, true, false, false, false, false, false] (v := ?_) ops_41_1_5 rfl ops_41_1_ns (by kernel_rfl) (by kernel_rfl) (fun _ _ _ h => h) (by rfl) ?y51 (by assumption) ?_
  case y51 =>
    intro w hSw
    try dsimp only at hSw
    go_simp
    try with_reducible rfl
  simp only [List.set_cons_zero, List.set_cons_succ]
  refine take_to 6 21 #[true, true, true, false, true, true, true, false, false, false, false] (v := ?_) ops_41_1_6 rfl ops_41_1_ns (by kernel_rfl) (by kernel_rfl) (fun _ _ _ h => h) (by rfl) ?y61 (by assumption) ?_
  case y61 =>
    intro w hSw
    try dsimp only at hSw
    go_simp
    try with_reducible rfl
  simp only [List.set_cons_zero, List.set_cons_succ]
  refine run_to 3 #[true, true, true, true, true, true, true, false, false, false, false] ops_41_1_3 (by kernel_rfl) (by kernel_rfl) (by rfl) (fun K hK => ?_)
  go_simp
  refine (checkFills_calls lo lo' lo3 _ _ _ ss cs fs _ (NRows.below HS0.out (hwW.trans (hHeld.1.mono hwW.size))) Hs.out hsn (NRows.below HC0.out (hwW.trans (hHeld.1.mono hwW.size))) Hc.out hcn (Nat.le_trans HlW.out hHeld.1.size) (HF0.out.below (hwW.trans (hHeld.1.mono hwW.size))) hfn).mono ?_
  rintro e w' ⟨rfl, hb⟩
  go_wp2_with fail
  refine hK.out _ _ ?_ (fun hHeld => ?_)
  · (exact HS1.out _ (by first | assumption | exact hHeld.1 | exact below_step hHeld.1 (by assumption) | exact below_step hHeld.1 (below_alloc _ _)))
  clear hK K
  try simp only [Act.put, List.setIfInBounds_toArray, List.set_cons_zero, List.set_cons_succ]
  refine run_to 7 #[true, true, true, true, true, true, true, true, false, false, false] ops_41_1_7 (by kernel_rfl) (by kernel_rfl) (by rfl) (fun K hK => ?_)
  go_simp
  refine (wrongNames_calls lo lo4 lo3 _ _ _ cs fs ks _ (NRows.below HC0.out (hwW.trans (hHeld.1.mono hwW.size))) (Nat.le_trans HlW.out hHeld.1.size) (HF0.out.below (hwW.trans (hHeld.1.mono hwW.size))) (HK0.out.below (hwW.trans (hHeld.1.mono hwW.size))) hkn).mono ?_
  rintro e w' ⟨rfl, hb⟩
  go_wp2_with fail
  refine hK.out _ _ ?_ (fun hHeld => ?_)
  · (exact HS1.out _ (by first | assumption | exact hHeld.1 | exact below_step hHeld.1 (by assumption) | exact below_step hHeld.1 (below_alloc _ _)))
  clear hK K
  try simp only [Act.put, List.setIfInBounds_toArray, List.set_cons_zero, List.set_cons_succ]
  refine run_to 8 #[true, true, true, true, true, true, true, true, true, false, false] ops_41_1_8 (by kernel_rfl) (by kernel_rfl) (by rfl) (fun K hK => ?_)
  go_simp
  refine hK.out _ _ ?_ (fun hHeld => ?_)
  · (exact HS1.out _ (by first | assumption | exact hHeld.1 | exact below_step hHeld.1 (by assumption) | exact below_step hHeld.1 (below_alloc _ _)))
  clear hK K
  try simp only [Act.put, List.setIfInBounds_toArray, List.set_cons_zero, List.set_cons_succ]
  refine run_to 9 #[true, true, true, true, true, true, true, true, true, true, false] ops_41_1_9 (by kernel_rfl) (by kernel_rfl) (by rfl) (fun K hK => ?_)
  go_simp
  refine (orE_calls _ 0 2 [chkFi ss cs fs, wnE cs fs ks] _ (by simp) (by exact nums2 _ _ _ _)).mono ?_
  rintro e w' ⟨rfl, rfl⟩
  go_wp2_with fail
  refine hK.out _ _ ?_ (fun hHeld => ?_)
  · (exact HS1.out _ (by first | assumption | exact hHeld.1 | exact below_step hHeld.1 (by assumption) | exact below_step hHeld.1 (below_alloc _ _)))
  clear hK K
  try simp only [Act.put, List.setIfInBounds_toArray, List.set_cons_zero, List.set_cons_succ]
  refine take_to 10 10 #[true, true, true, true, true, true, true, true, true, true, true] (v := ?_) ops_41_1_10 rfl ops_41_1_ns (by kernel_rfl) (by kernel_rfl) (fun _ _ _ h => h) (by rfl) ?y101 (by assumption) ?_
  case y101 =>
    intro w hSw
    try dsimp only at hSw
    go_simp
    try with_reducible rfl
  simp only [List.set_cons_zero, List.set_cons_succ]
  refine wpAnyH_done (by kernel_rfl) ?_ _
  have hb1 := hHeld.1
  have x5 := hHeld.2
  clear hHeld
  rw [← HE.out]
  by_cases hz : sbE ss cs fs ks = 0
  · have hlen := chk_len (first2_zero hz).1
    obtain ⟨hl, hpos, -⟩ := hlen
    have HL := Lib.hid (show sbL ss cs fs ks = sbTo cs ks ss fs ss.length by unfold sbL; rw [if_pos hz])
    have Hz := Lib.hid hz
    rw [hz]
    have Hl := Lib.hid hl
    rw [← hl] at hpos HL ⊢
    clear hz hl
    go_wp2_with fail
    refine (cloneFi_calls lo3 _ fs _ (HF0.out.below (below_step hwW hb1))).mono ?_
    rintro e w2 ⟨v2, hown, rfl, hb2⟩
    have hbw2 := below_step (below_step hwW hb1) hb2
    rcases hown.2 with ⟨rfl, h0⟩ | ⟨g, cap, cur, rfl, hgb, hgc, hle, _⟩
    · exact absurd h0 (by omega)
    obtain ⟨hat, _⟩ := RowsAt.of_owns (sz := 2) (rows := fs.map fiRow) (by simpa [OwnFi] using hown) (by simp [fiRow])
    have hg0 := lt_of_heap hgc
    have hgw : w.heap.size < g := by have := hb1.size; have := HzW.out; omega
    have hx5 : w2.heap[w.heap.size]? = some (.cells #[.slice ca cs.length cc] 28 (0, 0)) := cells_later (cells_later Hx5.out hb1) hb2
    clear hown hgc hgb hb2 x5
    go_upto_region 5 with fail
    obtain ⟨W3, hW3⟩ : ∃ W3, W3 = w2.alloc (.cells #[.slice (some ⟨g, 0, none⟩) fs.length cap] 30) := ⟨_, rfl⟩
    have hb23 : Below w2.heap.size w2 W3 := by rw [hW3]; exact below_alloc w2 _
    have hx11 : W3.heap[w2.heap.size]? = some (.cells #[.slice (some ⟨g, 0, none⟩) fs.length cap] 30 (0, 0)) := by rw [hW3]; exact heap_alloc_new w2 _
    rw [← hW3]
    have hat3 := hat.below hb23
    have hx5 := cells_later hx5 hb23
    have hbw3 := below_step hbw2 hb23
    generalize hX11 : w2.heap.size = X11 at hx11 hg0 ⊢
    have Hbig := Lib.hid (show fs.length ≤ 1000000 from hfn)
    clear hW3 hat hb23 hbw2 hX11 hb1 hb0
    go_wp2_with fail
    go_loopw [32] (fun i wr => ∃ k : Nat, k ≤ fs.length ∧ i = .int .i64 k ∧ Hid (RowsAt wr 49 g 0 2 ((sbTo cs ks ss fs k).map fiRow)) ∧ Hid (wr.heap[w.heap.size]? = some (.cells #[.slice ca cs.length cc] 28 (0, 0))) ∧ Hid (wr.heap[X11]? = some (.cells #[.slice (some ⟨g, 0, none⟩) fs.length cap] 30 (0, 0))) ∧ Below w.heap.size w wr) (fun i _ => fs.length - (intOf i).toNat)
    case atStart => exact ⟨0, Nat.zero_le _, rfl, Lib.hid hat3, Lib.hid hx5, Lib.hid hx11, hbw3⟩
    case round =>
      clear hat3 hx5 hx11 hbw3
      obtain ⟨k, hk, rfl, Hat, Hx5', Hx11, hb⟩ := hrel
      by_cases hlt : k < fs.length
      · obtain ⟨s, hs⟩ : ∃ s, ss[k]? = some s := ⟨_, List.getElem?_eq_getElem (by have := Hl.out; omega)⟩
        have Hnext := Lib.hid (show sbTo cs ks ss fs (k + 1) = sbStep cs ks s k (sbTo cs ks ss fs k) by rw [sbTo, slAt_some hs])
        have HFl := Lib.hid (sbTo_len cs ks ss fs k)
        generalize sbTo cs ks ss fs k = F at Hat Hnext HFl
        obtain ⟨f, hf⟩ : ∃ f, F[k]? = some f := ⟨_, List.getElem?_eq_getElem (by have := HFl.out; omega)⟩
        have Hf := Lib.hid hf
        rcases sls_at HS0.out with ⟨_, h⟩ | ⟨g', off', cap', e, _, hg', _, hcell⟩
        · rw [h] at hs; simp at hs
        simp only [Value.slice.injEq] at e
        obtain ⟨rfl, -, rfl⟩ := e
        obtain ⟨pv, s0, s1, hpv⟩ := hcell k s hs
        have Hpv := Lib.hid hpv
        obtain ⟨pa, pc, rfl⟩ := strs_shape hpv
        have s0 := below_cell hb s0
        have s1 := below_cell hb s1
        have hlt' : (k : Int) < (fs.length : Int) := by omega
        have hls' : (k : Int) < (ss.length : Int) := by have := Hl.out; omega
        clear hs hf hcell hpv
        go_upto_region 8 with fail
        obtain ⟨V, hV⟩ : ∃ V, V = wr.alloc (.cells #[.string s.key, .slice pa s.pos.length pc] 78) := ⟨_, rfl⟩
        have hbV : Below wr.heap.size wr V := by rw [hV]; exact below_alloc wr _
        have hx13 : V.heap[wr.heap.size]? = some (.cells #[.string s.key, .slice pa s.pos.length pc] 78 (0, 0)) := by rw [hV]; exact heap_alloc_new wr _
        rw [← hV]
        have hbwV := below_step hb hbV
        have Hat := Lib.hid (Hat.out.below hbV)
        have y5 := cells_later Hx5'.out hbV
        have y11 := cells_later Hx11.out hbV
        have z5 := cell_at y5 0 rfl
        have z11 := cell_at y11 0 rfl
        have hw0 : V.cell? ⟨g, k * 2 + 1, none⟩ = some (.string f.who) := by
          have := Hat.out.cell (i := k) (j := 1) (r := fiRow f) (u := .string f.who) (by simp [Hf.out]) rfl
          simpa using this
        have z0 := cell_at hx13 0 rfl
        have z1 := cell_at hx13 1 rfl
        have Hy5 := Lib.hid y5
        have Hy11 := Lib.hid y11
        have HS8 := Lib.hid (show ∀ w', Below V.heap.size V w' → (Below V.heap.size V w' ∧ w'.cell? ⟨w.heap.size, 0, none⟩ = some (.slice ca cs.length cc) ∧ w'.cell? ⟨X11, 0, none⟩ = some (.slice (some ⟨g, 0, none⟩) fs.length cap) ∧ w'.cell? ⟨g, k * 2 + 1, none⟩ = some (.string f.who) ∧ w'.cell? ⟨wr.heap.size, 0, none⟩ = some (.string s.key) ∧ w'.cell? ⟨wr.heap.size, 1, none⟩ = some (.slice pa s.pos.length pc)) from fun w' hb => ⟨hb, below_cell hb z5, below_cell hb z11, below_cell hb hw0, below_cell hb z0, below_cell hb z1⟩)
        generalize hX13 : wr.heap.size = X13 at HS8 ⊢
        have hb0 := (Below.refl V.heap.size V).drew
        have HlV := Lib.hid (show lo ≤ V.heap.size from Nat.le_trans hlo hbwV.size)
        clear hV hx13 hbV hX13 y5 y11 z5 z11 hw0 z0 z1 s0 s1 hb Hx5' Hx11
        show Code.wp _ (Code.region 8 ops_41_8 true) _ _ _
        refine region_start 7 (fun w' => Below V.heap.size V w' ∧ w'.cell? ⟨w.heap.size, 0, none⟩ = some (.slice ca cs.length cc) ∧ w'.cell? ⟨X11, 0, none⟩ = some (.slice (some ⟨g, 0, none⟩) fs.length cap) ∧ w'.cell? ⟨g, k * 2 + 1, none⟩ = some (.string f.who) ∧ w'.cell? ⟨X13, 0, none⟩ = some (.string s.key) ∧ w'.cell? ⟨X13, 1, none⟩ = some (.slice pa s.pos.length pc)) (by kernel_rfl) rfl ?_ (fun hHeld => ?_)
        · (exact HS8.out _ (by first | assumption | exact hHeld.1 | exact below_step hHeld.1 (by assumption) | exact below_step hHeld.1 (below_alloc _ _)))
        refine take_to 0 37 #[true, false, false, false, false, false, false] (v := ?_) ops_41_8_0 rfl ops_41_8_ns (by kernel_rfl) (by kernel_rfl) (fun _ _ _ h => h) (by rfl) ?y08 (by assumption) ?_
        case y08 =>
          intro w hSw
          try dsimp only at hSw
          go_simp
          try with_reducible rfl
        simp only [List.set_cons_zero, List.set_cons_succ]
        refine take_to 1 38 #[true, true, false, false, false, false, false] (v := ?_) ops_41_8_1 rfl ops_41_8_ns (by kernel_rfl) (by kernel_rfl) (fun _ _ _ h => h) (by rfl) ?y18 (by assumption) ?_
        case y18 =>
          intro w hSw
          try dsimp only at hSw
          go_simp
          try with_reducible rfl
        simp only [List.set_cons_zero, List.set_cons_succ]
        refine take_to 2 39 #[true, true, true, false, false, false, false] (v := ?_) ops_41_8_2 rfl ops_41_8_ns (by kernel_rfl) (by kernel_rfl) (fun _ _ _ h => h) (by rfl) ?y28 (by assumption) ?_
        case y28 =>
          intro w hSw
          try dsimp only at hSw
          go_simp
          try with_reducible rfl
        simp only [List.set_cons_zero, List.set_cons_succ]
        refine take_to 3 40 #[true, true, true, true, false, false, false] (v := ?_) ops_41_8_3 rfl ops_41_8_ns (by kernel_rfl) (by kernel_rfl) (fun _ _ _ h => h) (by rfl) ?y38 (by assumption) ?_
        case y38 =>
          intro w hSw
          try dsimp only at hSw
          go_simp
          try with_reducible rfl
        simp only [List.set_cons_zero, List.set_cons_succ]
        refine take_to 4 41 #[true, true, true, true, true, false, false] (v := ?_) ops_41_8_4 rfl ops_41_8_ns (by kernel_rfl) (by kernel_rfl) (fun _ _ _ h => h) (by rfl) ?y48 (by assumption) ?_
        case y48 =>
          intro w hSw
          try dsimp only at hSw
          go_simp
          try with_reducible rfl
        simp only [List.set_cons_zero, List.set_cons_succ]
        refine take_to 5 42 #[true, true, true, true, true, true, false] (v := ?_) ops_41_8_5 rfl ops_41_8_ns (by kernel_rfl) (by kernel_rfl) (fun _ _ _ h => h) (by rfl) ?y58 (by assumption) ?_
        case y58 =>
          intro w hSw
          try dsimp only at hSw
          go_simp
          try with_reducible rfl
        simp only [List.set_cons_zero, List.set_cons_succ]
        refine run_to 6 #[true, true, true, true, true, true, true] ops_41_8_6 (by kernel_rfl) (by kernel_rfl) (by rfl) (fun K hK => ?_)
        go_simp
        refine (played_calls lo _ cs f.who _ (NRows.below HC0.out (hbwV.trans (hHeld.1.mono hbwV.size))) (Nat.le_trans HlV.out hHeld.1.size)).mono ?_
        rintro e w' ⟨rfl, hb⟩
        go_wp2_with fail
        refine hK.out _ _ ?_ (fun hHeld => ?_)
        · (exact HS8.out _ (by first | assumption | exact hHeld.1 | exact below_step hHeld.1 (by assumption) | exact below_step hHeld.1 (below_alloc _ _)))
        clear hK K
        try simp only [Act.put, List.setIfInBounds_toArray, List.set_cons_zero, List.set_cons_succ]
        refine wpAnyH_done (by kernel_rfl) ?_ _
        have hb8 := hHeld.1
        have HH := Lib.hid hHeld
        clear hHeld
        cases hp : (fndC cs f.who).played
        · obtain ⟨-, z5, z11, -, z0, z1⟩ := HH.out
          have hbw8 := below_step hbwV hb8
          have hsz8 := hbw8.size
          have CI := Lib.hid (indexSF_calls 95 #[.pointer (some ⟨w.heap.size, 0, none⟩), .pointer (some ⟨X13, 0, none⟩), .pointer (some ⟨X11, 0, none⟩)] (sbP cs s F) lo4 _ ks _ (HK0.out.below hbw8) (by intro args w; go_simp) (fun V' b _ hb' => subbed1_calls lo lo' 0 w.heap.size X13 X11 _ _ _ cs s F b V' (below_cell hb' z5) (NRows.below HC0.out (below_step hbw8 hb')) (Nat.le_trans hlo (Nat.le_trans hsz8 hb'.size)) (below_cell hb' z0) (below_cell hb' z1) (Hpv.out.below (below_step hbw8 hb')) (below_cell hb' z11) (by
            have h := ((Hat.out.below hb8).below hb').rows (lo := 0) (cap := cap) (by rw [List.length_map, HFl.out]; exact Hbig.out) (Nat.zero_le _) (by rw [List.length_map, HFl.out]; exact hle)
            rw [List.length_map, HFl.out] at h
            exact h)))
          have Hp := Lib.hid hp
          clear hp z5 z11 z0 z1
          go_wp2_with fail
          refine CI.out.mono ?_
          rintro e w9 ⟨hcase, hb9⟩
          have hbw9 := below_step hbw8 hb9
          have Hat9 := Lib.hid ((Hat.out.below hb8).below hb9)
          have Hx5n := Lib.hid (cells_later (cells_later Hy5.out hb8) hb9)
          have Hx11n := Lib.hid (cells_later (cells_later Hy11.out hb8) hb9)
          clear CI hb8
          rcases hcase with ⟨rfl, h0⟩ | ⟨j, b, rfl, hj, hpj, hbefore⟩
          · have Hst := Lib.hid (sb_none (i := k) Hf.out Hp.out h0)
            clear h0
            go_wp2_with fail
            go_roundw
            case rel => exact ⟨k + 1, by omega, by go_num, by rw [Hnext.out, Hst.out]; exact Hat9, Hx5n, Hx11n, hbw9⟩
            case measure => simp [intOf]; omega
          · have Hst := Lib.hid (sb_some (i := k) Hf.out Hp.out hj hpj hbefore)
            rcases strs_at (HK0.out.below hbw9) with ⟨_, h⟩ | ⟨kg, koff, kcap, e, _, hkg, _, hkc⟩
            · rw [h] at hj; simp at hj
            simp only [Value.slice.injEq] at e
            obtain ⟨rfl, -, rfl⟩ := e
            have k0 := hkc j b hj
            have hjn := (List.getElem?_eq_some_iff.1 hj).1
            have hjn' : (j : Int) < (ks.length : Int) := by omega
            have y11 := cell_at Hx11n.out 0 rfl
            have hC11 : w9.drew.cell? ⟨X11, 0, none⟩ = some (.slice (some ⟨g, 0, none⟩) fs.length cap) ∧ w9.drew.cell? ⟨kg, koff + j, none⟩ = some (.string b) := ⟨y11, k0⟩
            clear hkc hj hpj hbefore k0 y11 hb9
            go_upto_region 11 with fail
            show Code.wp _ (Code.region 11 ops_41_11 true) _ _ _
            refine regionC_start 9 (fun w' => w'.cell? ⟨X11, 0, none⟩ = some (.slice (some ⟨g, 0, none⟩) fs.length cap) ∧ w'.cell? ⟨kg, koff + j, none⟩ = some (.string b)) (fun j => [0, 5].contains j) (by kernel_rfl) rfl ?_
            refine takeC 1 50 (v := ?_) ops_41_11_1 rfl (by kernel_rfl) (by kernel_rfl) (by kernel_rfl) (by rfl) (fun _ _ _ h => h) (by rfl) ?y1_1 ?_
            case y1_1 =>
              intro w
              go_simp
              try with_reducible rfl
            simp only [List.set_cons_zero, List.set_cons_succ]
            refine takeC 2 51 (v := ?_) ops_41_11_2 rfl (by kernel_rfl) (by kernel_rfl) (by kernel_rfl) (by rfl) (fun _ _ _ h => h) (by rfl) ?y2_2 ?_
            case y2_2 =>
              intro w
              go_simp
              try with_reducible rfl
            simp only [List.set_cons_zero, List.set_cons_succ]
            refine takeC 3 52 (v := ?_) ops_41_11_3 rfl (by kernel_rfl) (by kernel_rfl) (by kernel_rfl) (by rfl) (fun _ _ _ h => h) (by rfl) ?y3_3 ?_
            case y3_3 =>
              intro w
              go_simp
              try with_reducible rfl
            simp only [List.set_cons_zero, List.set_cons_succ]
            refine takeC 4 53 (v := ?_) ops_41_11_4 rfl (by kernel_rfl) (by kernel_rfl) (by kernel_rfl) (by rfl) (fun _ _ _ h => h) (by rfl) ?y4_4 ?_
            case y4_4 =>
              intro w
              go_simp
              try with_reducible rfl
            simp only [List.set_cons_zero, List.set_cons_succ]
            refine loadC 0 49 (v := ?_) ops_41_11_0 rfl (by kernel_rfl) (by kernel_rfl) (by kernel_rfl) (by kernel_rfl) (fun _ _ _ h => h) (by rfl) ?y0_5 (by exact hC11) ?_
            case y0_5 =>
              intro w hSw
              try dsimp only at hSw
              go_simp
              try with_reducible rfl
            simp only [List.set_cons_zero, List.set_cons_succ]
            refine loadC 5 54 (v := ?_) ops_41_11_5 rfl (by kernel_rfl) (by kernel_rfl) (by kernel_rfl) (by kernel_rfl) (fun _ _ _ h => h) (by rfl) ?y5_6 (by exact hC11) ?_
            case y5_6 =>
              intro w hSw
              try dsimp only at hSw
              go_simp
              try with_reducible rfl
            simp only [List.set_cons_zero, List.set_cons_succ]
            refine takeC 6 55 (v := ?_) ops_41_11_6 rfl (by kernel_rfl) (by kernel_rfl) (by kernel_rfl) (by rfl) (fun _ _ _ h => h) (by rfl) ?y6_7 ?_
            case y6_7 =>
              intro w
              go_simp
              try with_reducible rfl
            simp only [List.set_cons_zero, List.set_cons_succ]
            refine takeC 7 56 (v := ?_) ops_41_11_7 rfl (by kernel_rfl) (by kernel_rfl) (by kernel_rfl) (by rfl) (fun _ _ _ h => h) (by rfl) ?y7_8 ?_
            case y7_8 =>
              intro w
              go_simp
              try with_reducible rfl
            simp only [List.set_cons_zero, List.set_cons_succ]
            refine readyC (rs := [8]) (by kernel_rfl) (by simp) (each_cons (runC ops_41_11_8 (by rfl) (fun K hK => ?_)) each_nil)
            have f1 := Hat9.out.free (k * 2 + 1)
            have q1 : w9.drew.cell? ⟨g, k * 2 + 1, none⟩ = some (.string f.who) := by
                have := Hat9.out.cell (i := k) (j := 1) (r := fiRow f) (u := .string f.who) (by simp [Hf.out]) rfl
                simpa using this
            go_simp
            have hset := Hat9.out.set (i := k) (f := 1) (row := fiRow f) (by simp [Hf.out]) (by omega) (.string b)
            rw [show (fiRow f).set 1 (.string b) = fiRow ⟨f.slot, b⟩ from rfl, ← List.map_set, Nat.zero_add] at hset
            have HatN := Lib.hid (show RowsAt (w9.drew.setCell ⟨g, k * 2 + 1, none⟩ (.string b)) 49 g 0 2 _ from hset)
            have Hx5m := Lib.hid (heap_far (o := k * 2 + 1) (u := .string b) (w := w9.drew) (Y := g) Hx5n.out (by omega))
            have Hx11m := Lib.hid (heap_far (o := k * 2 + 1) (u := .string b) (w := w9.drew) (Y := g) Hx11n.out (by omega))
            have hbN : Below w.heap.size w (w9.drew.setCell ⟨g, k * 2 + 1, none⟩ (.string b)) := below_set hbw9.drew (by omega) _
            clear f1 q1 hset hC11
            refine hK.out _ _ (fun h => absurd h (by decide)) ?_
            clear hK K
            try simp only [List.setIfInBounds_toArray, List.set_cons_zero, List.set_cons_succ]
            refine doneC (by kernel_rfl) ?_ _
            go_wp2_with fail
            go_roundw
            case rel => exact ⟨k + 1, by omega, by go_num, by rw [Hnext.out, Hst.out]; exact HatN, Hx5m, Hx11m, hbN⟩
            case measure => simp [intOf]; omega
        · clear HH
          go_wp2_with fail
          go_roundw
          case rel => exact ⟨k + 1, by omega, by go_num, Lib.hid (by rw [Hnext.out, sb_played Hf.out hp]; exact Hat.out.below hb8), Lib.hid (cells_later Hy5.out hb8), Lib.hid (cells_later Hy11.out hb8), below_step hbwV hb8⟩
          case measure => simp [intOf]; omega
      · obtain rfl : k = fs.length := by omega
        have z11 := cell_at Hx11.out 0 rfl
        have hfin := Hat.out.rows (lo := w.heap.size) (cap := cap) (by rw [List.length_map, sbTo_len]; exact Hbig.out) (by omega) (by rw [List.length_map, sbTo_len]; exact hle)
        rw [List.length_map, sbTo_len] at hfin
        have HFin := Lib.hid hfin
        clear hfin
        go_wp2_with fail
        go_ret2
        exact ⟨.slice (some ⟨g, 0, none⟩) fs.length cap, by rw [Hz.out]; rfl, by rw [HL.out]; exact HFin.out, hb⟩
  · have HL := Lib.hid (show sbL ss cs fs ks = [] by unfold sbL; rw [if_neg hz])
    have hne : (sbE ss cs fs ks == 0) = false := by rw [beq_eq_false_iff_ne]; exact hz
    generalize hX0 : sbE ss cs fs ks = X0 at hne ⊢
    have HX0 := Lib.hid hX0
    clear hz hX0 x5
    go_wp2_with fail
    go_ret2
    exact ⟨.slice none 0 0, by rw [HX0.out]; rfl, by rw [HL.out]; exact fis_nil _ _, below_step hwW hb1⟩
end Go.Proofs.YthlfjfmlmcoihaaGreat
