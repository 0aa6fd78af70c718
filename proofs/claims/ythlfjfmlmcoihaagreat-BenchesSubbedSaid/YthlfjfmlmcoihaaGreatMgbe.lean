/- Some players of a list, drawn. -/
import Derived.Test.YthlfjfmlmcoihaaGreatMgaj
import Derived.Test.YthlfjfmlmcoihaaGreatMgac
import Derived.Test.YthlfjfmlmcoihaaGreatMgad
import Derived.Test.YthlfjfmlmcoihaaGreatMgap
import Derived.Test.YthlfjfmlmcoihaaGreatMgag
import Derived.Test.YthlfjfmlmcoihaaGreatMgas
/- The numbers below n in some order, drawn. -/
namespace Go.Proofs.YthlfjfmlmcoihaaGreat
open Go.RowKit

theorem info_int : (Tryz.prog.info? 3).map (fun i => (i.zero, i.size, i.bytes)) = some (some (.int .i64 0), 1, 8) := by kernel_rfl
def inRow (i : Nat) : List Value := [.int .i64 (i : Int)]
/-- Numbers below m in block g: the stream goes on. -/
def OrS (w : World) (B g m n : Nat) (w' : World) : Prop :=
  ∃ is : List Nat, is.length = m ∧ (∀ x ∈ is, x < m) ∧ RowsAt w' 3 g 0 1 (is.map inRow) ∧ St w' B n ∧ w.grownBy w' (some B)
theorem OrS.st {w : World} {B g m n : Nat} {w' : World} (h : OrS w B g m n w') : St w' B n := by obtain ⟨_, _, _, _, h, _⟩ := h; exact h
theorem OrS.gb {w : World} {B g m n : Nat} {w' : World} (h : OrS w B g m n w') : w.grownBy w' (some B) := by obtain ⟨_, _, _, _, _, h⟩ := h; exact h
theorem OrS.mono {w : World} {B g m n k : Nat} {w' : World} (h : OrS w B g m n w') (hk : n ≤ k) : OrS w B g m k w' := by
  obtain ⟨rs, h1, h2, h3, h4, h5⟩ := h; exact ⟨rs, h1, h2, h3, h4.mono hk, h5⟩
theorem OrS.step {w : World} {B g m n k : Nat} {w' w'' : World} (h : OrS w B g m n w') (hs : St w'' B k) (hg : w'.grownBy w'' (some B)) (hne : g ≠ B) : OrS w B g m k w'' := by
  obtain ⟨rs, h1, h2, h3, h4, h5⟩ := h
  exact ⟨rs, h1, h2, h3.lift (hg.block g h3.lt (by intro e; cases e; exact hne rfl)), hs, gb_trans h5 hg⟩
theorem OrS.drew {w : World} {B g m n : Nat} {w' : World} (h : OrS w B g m n w') : OrS w B g m n w'.drew := by
  obtain ⟨rs, h1, h2, h3, h4, h5⟩ := h
  exact ⟨rs, h1, h2, h3, h4, gb_trans h5 (gb_drewN w' 1 _)⟩
theorem OrS.free {w : World} {B g m n : Nat} {w' : World} (h : OrS w B g m n w') (o : Nat) : w'.frozen? ⟨g, o, none⟩ = false := by
  obtain ⟨rs, h1, h2, h3, h4, h5⟩ := h; exact h3.free o
theorem OrS.cell {w : World} {B g m n : Nat} {w' : World} (h : OrS w B g m n w') {i : Nat} (hi : i < m) : ∃ x : Nat, x < m ∧ w'.cell? ⟨g, i, none⟩ = some (.int .i64 (x : Int)) := by
  obtain ⟨rs, h1, h2, h3, h4, h5⟩ := h
  obtain ⟨x, hx⟩ : ∃ x, rs[i]? = some x := ⟨_, List.getElem?_eq_getElem (by omega)⟩
  have := h3.cell (i := i) (j := 0) (r := inRow x) (u := .int .i64 (x : Int)) (by simp [hx]) rfl
  exact ⟨x, h2 x (List.mem_of_getElem? hx), by simpa using this⟩
theorem OrS.put {w : World} {B g m n : Nat} {w' : World} (h : OrS w B g m n w') (hB : B < w.heap.size) (hg : w.heap.size ≤ g) {i x : Nat} (hi : i < m) (hx : x < m) : OrS w B g m n (w'.setCell ⟨g, i, none⟩ (.int .i64 (x : Int))) := by
  obtain ⟨rs, h1, h2, h3, h4, h5⟩ := h
  have hi' : i < rs.length := by omega
  have hs := h3.set (i := i) (f := 0) (row := inRow rs[i]) (by simp [hi']) (by omega) (.int .i64 (x : Int))
  have he : (inRow rs[i]).set 0 (.int .i64 (x : Int)) = inRow x := rfl
  rw [he, Nat.zero_add, ← List.map_set, Nat.mul_one] at hs
  have hgr := gb_setCell w' g i (.int .i64 (x : Int))
  refine ⟨rs.set i x, by simpa using h1, fun y hy => ?_, hs, h4.grown hgr fun r hr => by cases hr; omega, gb_then h5 hgr fun r hr => by cases hr; exact hg⟩
  rcases List.mem_or_eq_of_mem_set hy with hy | rfl
  · exact h2 y hy
  · exact hx
/-- What Order answers. -/
def OrdV (lo n : Nat) (w : World) (v : Value) : Prop := ∃ is : List Nat, Rows w 3 lo 1 v (is.map inRow) ∧ is.length = n ∧ ∀ x ∈ is, x < n
theorem OrS.made {w : World} {B g m n c : Nat} {w' : World} (h : OrS w B g m n w') (hm : m ≤ 1000) (hc : m ≤ c) (hg : w.heap.size ≤ g) : OrdV w.heap.size m w' (.slice (some ⟨g, 0, none⟩) m c) := by
  obtain ⟨rs, h1, h2, h3, h4, h5⟩ := h
  have := h3.rows (lo := w.heap.size) (cap := c) (by simp; omega) hg (by simp; omega)
  rw [List.length_map, h1] at this
  exact ⟨rs, this, h1, h2⟩
theorem OrdV.shape {lo n : Nat} {w : World} {v : Value} (h : OrdV lo n w v) : ∃ a c, v = .slice a n c := by
  obtain ⟨is, h1, h2, _⟩ := h
  rcases rows_at h1 with ⟨rfl, e⟩ | ⟨g, off, cap, rfl, _⟩
  · have : is.length = 0 := by simpa using e
    rw [← h2, this]; exact ⟨none, 0, rfl⟩
  · rw [List.length_map, h2]; exact ⟨_, _, rfl⟩
theorem OrdV.below {lo n : Nat} {w w' : World} {v : Value} (h : OrdV lo n w v) (hb : Below w.heap.size w w') : OrdV lo n w' v := by
  obtain ⟨is, h1, h2, h3⟩ := h; exact ⟨is, h1.below hb, h2, h3⟩
theorem OrdV.other {lo n B : Nat} {w w' : World} {v : Value} (h : OrdV lo n w v) (hb : w.grownBy w' (some B)) (hB : B < lo) : OrdV lo n w' v := by
  obtain ⟨is, h1, h2, h3⟩ := h; exact ⟨is, h1.other hb hB, h2, h3⟩
/-- One of the numbers. -/
theorem OrdV.at {lo n c i : Nat} {w : World} {a : Option Addr} (h : OrdV lo n w (.slice a n c)) (hi : i < n) : ∃ g off x : Nat, a = some ⟨g, off, none⟩ ∧ lo ≤ g ∧ g < w.heap.size ∧ x < n ∧ w.cell? ⟨g, off + i, none⟩ = some (.int .i64 (x : Int)) := by
  obtain ⟨is, h1, h2, h3⟩ := h
  rcases rows_at h1 with ⟨_, e⟩ | ⟨g, off, cap, e, hl, hg, hc⟩
  · have : is.length = 0 := by simpa using e
    omega
  · simp only [Value.slice.injEq] at e
    obtain ⟨x, hx⟩ : ∃ x, is[i]? = some x := ⟨_, List.getElem?_eq_getElem (by omega)⟩
    have := hc i 0 (.int .i64 (x : Int)) (by simp [hx, inRow])
    exact ⟨g, off, x, e.1, hl, hg, h3 x (List.mem_of_getElem? hx), by simpa using this⟩
def ops_49_11 : Array Go.Oper := #[
  { dst := some 28, op := Go.Op.move (Go.Operand.tmp 5), type := 22, pos := "stream.go:55", after := #[], guard := none },
  { dst := some 29, op := Go.Op.move (Go.Operand.tmp 7), type := 3, pos := "stream.go:55", after := #[], guard := none },
  { dst := some 30, op := Go.Op.move (Go.Operand.tmp 5), type := 22, pos := "stream.go:55", after := #[{ on := 13, ground := Go.Ground.gcOnly Go.Departure.lateStores }], guard := none },
  { dst := some 31, op := Go.Op.move (Go.Operand.tmp 8), type := 3, pos := "stream.go:55", after := #[{ on := 13, ground := Go.Ground.gcOnly Go.Departure.lateStores }], guard := none },
  { dst := some 32, op := Go.Op.move (Go.Operand.tmp 5), type := 22, pos := "stream.go:55", after := #[], guard := none },
  { dst := some 33, op := Go.Op.move (Go.Operand.tmp 8), type := 3, pos := "stream.go:55", after := #[], guard := none },
  { dst := some 34, op := Go.Op.indexAddr 22 (Go.Operand.tmp 32) (Go.Operand.tmp 33), type := 0, pos := "stream.go:55", after := #[{ on := 4, ground := Go.Ground.data }, { on := 5, ground := Go.Ground.data }], guard := none },
  { dst := some 35, op := Go.Op.load 3 (Go.Operand.tmp 34), type := 3, pos := "stream.go:55", after := #[{ on := 6, ground := Go.Ground.data }], guard := none },
  { dst := some 36, op := Go.Op.move (Go.Operand.tmp 5), type := 22, pos := "stream.go:55", after := #[], guard := none },
  { dst := some 37, op := Go.Op.move (Go.Operand.tmp 7), type := 3, pos := "stream.go:55", after := #[], guard := none },
  { dst := some 38, op := Go.Op.indexAddr 22 (Go.Operand.tmp 36) (Go.Operand.tmp 37), type := 0, pos := "stream.go:55", after := #[{ on := 8, ground := Go.Ground.data }, { on := 9, ground := Go.Ground.data }], guard := none },
  { dst := some 39, op := Go.Op.load 3 (Go.Operand.tmp 38), type := 3, pos := "stream.go:55", after := #[{ on := 10, ground := Go.Ground.data }], guard := none },
  { dst := some 40, op := Go.Op.indexAddr 22 (Go.Operand.tmp 28) (Go.Operand.tmp 29), type := 0, pos := "stream.go:55", after := #[{ on := 0, ground := Go.Ground.data }, { on := 1, ground := Go.Ground.data }, { on := 0, ground := Go.Ground.phase }, { on := 1, ground := Go.Ground.phase }, { on := 2, ground := Go.Ground.textOnly Go.Departure.lateStores }, { on := 3, ground := Go.Ground.textOnly Go.Departure.lateStores }, { on := 4, ground := Go.Ground.phase }, { on := 5, ground := Go.Ground.phase }, { on := 6, ground := Go.Ground.phase }, { on := 7, ground := Go.Ground.phase }, { on := 8, ground := Go.Ground.textOnly Go.Departure.lateStores }, { on := 9, ground := Go.Ground.textOnly Go.Departure.lateStores }, { on := 10, ground := Go.Ground.textOnly Go.Departure.lateStoresUnsure }, { on := 11, ground := Go.Ground.phase }], guard := none },
  { dst := none, op := Go.Op.store 3 (Go.Operand.tmp 40) (Go.Operand.tmp 35), type := 0, pos := "stream.go:55", after := #[{ on := 12, ground := Go.Ground.data }, { on := 7, ground := Go.Ground.data }, { on := 0, ground := Go.Ground.phase }, { on := 1, ground := Go.Ground.phase }, { on := 2, ground := Go.Ground.textOnly Go.Departure.lateStores }, { on := 3, ground := Go.Ground.textOnly Go.Departure.lateStores }, { on := 4, ground := Go.Ground.phase }, { on := 5, ground := Go.Ground.phase }, { on := 6, ground := Go.Ground.phase }, { on := 7, ground := Go.Ground.phase }, { on := 8, ground := Go.Ground.textOnly Go.Departure.lateStores }, { on := 9, ground := Go.Ground.textOnly Go.Departure.lateStores }, { on := 10, ground := Go.Ground.textOnly Go.Departure.lateStoresUnsure }, { on := 11, ground := Go.Ground.phase }], guard := none },
  { dst := some 41, op := Go.Op.indexAddr 22 (Go.Operand.tmp 30) (Go.Operand.tmp 31), type := 0, pos := "stream.go:55", after := #[{ on := 2, ground := Go.Ground.data }, { on := 3, ground := Go.Ground.data }, { on := 0, ground := Go.Ground.phase }, { on := 1, ground := Go.Ground.phase }, { on := 2, ground := Go.Ground.phase }, { on := 3, ground := Go.Ground.phase }, { on := 4, ground := Go.Ground.phase }, { on := 5, ground := Go.Ground.phase }, { on := 6, ground := Go.Ground.phase }, { on := 7, ground := Go.Ground.phase }, { on := 8, ground := Go.Ground.phase }, { on := 9, ground := Go.Ground.phase }, { on := 10, ground := Go.Ground.phase }, { on := 11, ground := Go.Ground.phase }, { on := 12, ground := Go.Ground.phase }, { on := 13, ground := Go.Ground.phase }], guard := none },
  { dst := none, op := Go.Op.store 3 (Go.Operand.tmp 41) (Go.Operand.tmp 39), type := 0, pos := "stream.go:55", after := #[{ on := 14, ground := Go.Ground.data }, { on := 11, ground := Go.Ground.data }, { on := 13, ground := Go.Ground.chain }, { on := 0, ground := Go.Ground.phase }, { on := 1, ground := Go.Ground.phase }, { on := 2, ground := Go.Ground.phase }, { on := 3, ground := Go.Ground.phase }, { on := 4, ground := Go.Ground.phase }, { on := 5, ground := Go.Ground.phase }, { on := 6, ground := Go.Ground.phase }, { on := 7, ground := Go.Ground.phase }, { on := 8, ground := Go.Ground.phase }, { on := 9, ground := Go.Ground.phase }, { on := 10, ground := Go.Ground.phase }, { on := 11, ground := Go.Ground.phase }, { on := 12, ground := Go.Ground.phase }, { on := 13, ground := Go.Ground.phase }], guard := none }]
theorem ops_49_11_0 : ops_49_11[0]? = some ({ dst := some 28, op := Go.Op.move (Go.Operand.tmp 5), type := 22, pos := "stream.go:55", after := #[], guard := none } : Go.Oper) := rfl
theorem ops_49_11_1 : ops_49_11[1]? = some ({ dst := some 29, op := Go.Op.move (Go.Operand.tmp 7), type := 3, pos := "stream.go:55", after := #[], guard := none } : Go.Oper) := rfl
theorem ops_49_11_2 : ops_49_11[2]? = some ({ dst := some 30, op := Go.Op.move (Go.Operand.tmp 5), type := 22, pos := "stream.go:55", after := #[{ on := 13, ground := Go.Ground.gcOnly Go.Departure.lateStores }], guard := none } : Go.Oper) := rfl
theorem ops_49_11_3 : ops_49_11[3]? = some ({ dst := some 31, op := Go.Op.move (Go.Operand.tmp 8), type := 3, pos := "stream.go:55", after := #[{ on := 13, ground := Go.Ground.gcOnly Go.Departure.lateStores }], guard := none } : Go.Oper) := rfl
theorem ops_49_11_4 : ops_49_11[4]? = some ({ dst := some 32, op := Go.Op.move (Go.Operand.tmp 5), type := 22, pos := "stream.go:55", after := #[], guard := none } : Go.Oper) := rfl
theorem ops_49_11_5 : ops_49_11[5]? = some ({ dst := some 33, op := Go.Op.move (Go.Operand.tmp 8), type := 3, pos := "stream.go:55", after := #[], guard := none } : Go.Oper) := rfl
theorem ops_49_11_6 : ops_49_11[6]? = some ({ dst := some 34, op := Go.Op.indexAddr 22 (Go.Operand.tmp 32) (Go.Operand.tmp 33), type := 0, pos := "stream.go:55", after := #[{ on := 4, ground := Go.Ground.data }, { on := 5, ground := Go.Ground.data }], guard := none } : Go.Oper) := rfl
theorem ops_49_11_7 : ops_49_11[7]? = some ({ dst := some 35, op := Go.Op.load 3 (Go.Operand.tmp 34), type := 3, pos := "stream.go:55", after := #[{ on := 6, ground := Go.Ground.data }], guard := none } : Go.Oper) := rfl
theorem ops_49_11_8 : ops_49_11[8]? = some ({ dst := some 36, op := Go.Op.move (Go.Operand.tmp 5), type := 22, pos := "stream.go:55", after := #[], guard := none } : Go.Oper) := rfl
theorem ops_49_11_9 : ops_49_11[9]? = some ({ dst := some 37, op := Go.Op.move (Go.Operand.tmp 7), type := 3, pos := "stream.go:55", after := #[], guard := none } : Go.Oper) := rfl
theorem ops_49_11_10 : ops_49_11[10]? = some ({ dst := some 38, op := Go.Op.indexAddr 22 (Go.Operand.tmp 36) (Go.Operand.tmp 37), type := 0, pos := "stream.go:55", after := #[{ on := 8, ground := Go.Ground.data }, { on := 9, ground := Go.Ground.data }], guard := none } : Go.Oper) := rfl
theorem ops_49_11_11 : ops_49_11[11]? = some ({ dst := some 39, op := Go.Op.load 3 (Go.Operand.tmp 38), type := 3, pos := "stream.go:55", after := #[{ on := 10, ground := Go.Ground.data }], guard := none } : Go.Oper) := rfl
theorem ops_49_11_12 : ops_49_11[12]? = some ({ dst := some 40, op := Go.Op.indexAddr 22 (Go.Operand.tmp 28) (Go.Operand.tmp 29), type := 0, pos := "stream.go:55", after := #[{ on := 0, ground := Go.Ground.data }, { on := 1, ground := Go.Ground.data }, { on := 0, ground := Go.Ground.phase }, { on := 1, ground := Go.Ground.phase }, { on := 2, ground := Go.Ground.textOnly Go.Departure.lateStores }, { on := 3, ground := Go.Ground.textOnly Go.Departure.lateStores }, { on := 4, ground := Go.Ground.phase }, { on := 5, ground := Go.Ground.phase }, { on := 6, ground := Go.Ground.phase }, { on := 7, ground := Go.Ground.phase }, { on := 8, ground := Go.Ground.textOnly Go.Departure.lateStores }, { on := 9, ground := Go.Ground.textOnly Go.Departure.lateStores }, { on := 10, ground := Go.Ground.textOnly Go.Departure.lateStoresUnsure }, { on := 11, ground := Go.Ground.phase }], guard := none } : Go.Oper) := rfl
theorem ops_49_11_13 : ops_49_11[13]? = some ({ dst := none, op := Go.Op.store 3 (Go.Operand.tmp 40) (Go.Operand.tmp 35), type := 0, pos := "stream.go:55", after := #[{ on := 12, ground := Go.Ground.data }, { on := 7, ground := Go.Ground.data }, { on := 0, ground := Go.Ground.phase }, { on := 1, ground := Go.Ground.phase }, { on := 2, ground := Go.Ground.textOnly Go.Departure.lateStores }, { on := 3, ground := Go.Ground.textOnly Go.Departure.lateStores }, { on := 4, ground := Go.Ground.phase }, { on := 5, ground := Go.Ground.phase }, { on := 6, ground := Go.Ground.phase }, { on := 7, ground := Go.Ground.phase }, { on := 8, ground := Go.Ground.textOnly Go.Departure.lateStores }, { on := 9, ground := Go.Ground.textOnly Go.Departure.lateStores }, { on := 10, ground := Go.Ground.textOnly Go.Departure.lateStoresUnsure }, { on := 11, ground := Go.Ground.phase }], guard := none } : Go.Oper) := rfl
theorem ops_49_11_14 : ops_49_11[14]? = some ({ dst := some 41, op := Go.Op.indexAddr 22 (Go.Operand.tmp 30) (Go.Operand.tmp 31), type := 0, pos := "stream.go:55", after := #[{ on := 2, ground := Go.Ground.data }, { on := 3, ground := Go.Ground.data }, { on := 0, ground := Go.Ground.phase }, { on := 1, ground := Go.Ground.phase }, { on := 2, ground := Go.Ground.phase }, { on := 3, ground := Go.Ground.phase }, { on := 4, ground := Go.Ground.phase }, { on := 5, ground := Go.Ground.phase }, { on := 6, ground := Go.Ground.phase }, { on := 7, ground := Go.Ground.phase }, { on := 8, ground := Go.Ground.phase }, { on := 9, ground := Go.Ground.phase }, { on := 10, ground := Go.Ground.phase }, { on := 11, ground := Go.Ground.phase }, { on := 12, ground := Go.Ground.phase }, { on := 13, ground := Go.Ground.phase }], guard := none } : Go.Oper) := rfl
theorem ops_49_11_15 : ops_49_11[15]? = some ({ dst := none, op := Go.Op.store 3 (Go.Operand.tmp 41) (Go.Operand.tmp 39), type := 0, pos := "stream.go:55", after := #[{ on := 14, ground := Go.Ground.data }, { on := 11, ground := Go.Ground.data }, { on := 13, ground := Go.Ground.chain }, { on := 0, ground := Go.Ground.phase }, { on := 1, ground := Go.Ground.phase }, { on := 2, ground := Go.Ground.phase }, { on := 3, ground := Go.Ground.phase }, { on := 4, ground := Go.Ground.phase }, { on := 5, ground := Go.Ground.phase }, { on := 6, ground := Go.Ground.phase }, { on := 7, ground := Go.Ground.phase }, { on := 8, ground := Go.Ground.phase }, { on := 9, ground := Go.Ground.phase }, { on := 10, ground := Go.Ground.phase }, { on := 11, ground := Go.Ground.phase }, { on := 12, ground := Go.Ground.phase }, { on := 13, ground := Go.Ground.phase }], guard := none } : Go.Oper) := rfl
theorem ops_49_11_ns : Go.Region.noSelect ops_49_11 = true := by kernel_rfl
set_option maxHeartbeats 1000000 in
theorem order0_calls (B N : Nat) (w : World) (hs : St w B N) :
    Calls Tryz.prog 49 #[.pointer (some ⟨B, 0, none⟩), .int .i64 0] w (Made B N (OrdV w.heap.size 0) w) := by
  go_enter Tryz.func49, Tryz.ntmps49
  go_wp2_with fail
  refine wp_loop_rounds 1 ?_
  rw [rounds_succ]
  go_wp2_with fail
  refine wp_loop_rounds 1 ?_
  rw [rounds_succ]
  go_wp2_with fail
  go_ret
  exact ⟨_, ⟨[], ⟨by simp, by simp, .inl ⟨rfl, rfl⟩⟩, rfl, by simp⟩, rfl, hs, gb_refl _ _⟩
set_option maxRecDepth 100000 in
set_option maxHeartbeats 8000000 in
theorem order_calls (B N n : Nat) (w : World) (hs : St w B N) (hN : N + n ≤ 3990000) (hn : n ≤ 1000) :
    Calls Tryz.prog 49 #[.pointer (some ⟨B, 0, none⟩), .int .i64 (n : Int)] w (Made B (N + n) (OrdV w.heap.size n) w) := by
  by_cases hz : n = 0
  · subst hz
    exact order0_calls B N w hs
  obtain ⟨i0, hi, hz0, hz1, hz2⟩ := info_parts info_int
  have hBw := hs.lt
  have hpos : 1 ≤ n := by omega
  clear hz
  go_enter Tryz.func49, Tryz.ntmps49
  go_wp2_with fail
  go_loopw [5, 10] (fun out i wr => ∃ k : Nat, k ≤ n ∧ i = .int .i64 k ∧ wr.ownsRow w.heap.size 3 1 out k ((List.range k).map fun (j : Nat) => .int .i64 (j : Int)) ∧ Below w.heap.size w wr) (fun _ i _ => n - (intOf i).toNat)
  case atStart => exact ⟨0, Nat.zero_le _, rfl, World.ownsRow_nil _ _ _ _, Below.refl _ _⟩
  case round =>
    obtain ⟨k, hk, rfl, hown, hb⟩ := hrel
    by_cases hlt : k < n
    · have hlt' : (k : Int) < (n : Int) := by omega
      go_wp2_with (at_builtin; refine wpList_append_own _ rfl _ _ 22 rfl w.heap.size 3 i0 (.int .i64 0) 1 8 Tryz.underlying22 hi hz0 hz1 hz2 rfl (by decide) _ _ _ rfl (hown.alloc _) ⟨wr.heap.size, 0, none⟩ 1 1 [.int .i64 (k : Int)] rfl rfl ?c1 ?c2 ?c3 ?c4 ?c5 ?_)
      case c1 => exact cells_new _ _ _
      case c2 => simp [Value.oneCell']
      case c3 => unfold maxLen; omega
      case c4 => have := hb.size; omega
      case c5 => have := hb.size; simp; omega
      intro v' w4 hown4 hgrow _
      go_wp2_with fail
      go_roundw
      case rel =>
        refine ⟨k + 1, by omega, by go_num, by rw [List.range_succ, List.map_append]; simpa using hown4, (below_step hb (below_alloc wr (.cells #[.int .i64 (k : Int)] 3))).grown hgrow (by simp; have := hb.size; omega) fun r hr => (own_block hown r hr).1⟩
      case measure => simp [intOf]; omega
    · obtain rfl : k = n := by omega
      have hsr := hs.below hb
      rcases hown.2 with ⟨rfl, h0⟩ | ⟨g, cap, cur, rfl, hgb, hgc, hle, _⟩
      · exact absurd h0 (by omega)
      obtain ⟨hat, _⟩ := RowsAt.of_owns (sz := 1) (rows := (List.range k).map inRow) (by
        have e : ((List.range k).map inRow).flatten = (List.range k).map fun (j : Nat) => Value.int .i64 (j : Int) := flatten_single (fun j : Nat => Value.int .i64 (j : Int)) _
        rw [e]; simpa using hown) (by simp [inRow])
      have hX0 : OrS w B g k N wr := ⟨List.range k, by simp, fun x hx => List.mem_range.1 hx, hat, hsr, gb_below hb _⟩
      have hne : g ≠ B := by omega
      clear hat hgc hown hsr hb hi hz0 hz1 hz2 hlt hk hs
      go_wp2_with fail
      go_loopw [7] (fun i wx => ∃ j : Nat, j < k ∧ i = .int .i64 j ∧ OrS w B g k (N + (k - 1 - j)) wx) (fun i _ => (intOf i).toNat)
      case atStart => exact ⟨k - 1, by omega, by congr 1; omega, hX0.mono (by omega)⟩
      case round =>
        clear hX0
        obtain ⟨j, hj, rfl, hX⟩ := hrel
        by_cases hj0 : 0 < j
        · have hj0' : (0 : Int) < (j : Int) := by omega
          go_wp2_with fail
          refine (next_calls B _ ((j : Int) + 1) _ hX.st (by omega) (by omega) (by omega)).mono ?_
          rintro e w4 ⟨v, ⟨q, rfl, hq⟩, rfl, hs4, hg4⟩
          replace hX := hX.step hs4 hg4 hne
          clear hs4 hg4
          have hq' : q < k := by omega
          go_upto_region 11 with fail
          replace hX := hX.drew
          obtain ⟨x, hx, cx⟩ := hX.cell hj
          obtain ⟨y, hy, cy⟩ := hX.cell hq'
          have hjl : (j : Int) < (k : Int) := by omega
          have hql : (q : Int) < (k : Int) := by omega
          have hC : w4.drew.cell? ⟨g, j, none⟩ = some (.int .i64 (x : Int)) ∧ w4.drew.cell? ⟨g, q, none⟩ = some (.int .i64 (y : Int)) := ⟨cx, cy⟩
          clear cx cy
          show Code.wp _ (Code.region 11 ops_49_11 true) _ _ _
          refine regionC_start 16 (fun w' => w'.cell? ⟨g, j, none⟩ = some (.int .i64 (x : Int)) ∧ w'.cell? ⟨g, q, none⟩ = some (.int .i64 (y : Int))) (fun j => [7, 11].contains j) (by kernel_rfl) rfl ?_
          generalize w4.drew = W4 at hX hC ⊢
          · skip
            refine takeC 0 28 (v := ?_) ops_49_11_0 rfl (by kernel_rfl) (by kernel_rfl) (by kernel_rfl) (by rfl) (fun _ _ _ h => h) (by rfl) ?y0_1 ?_
            case y0_1 =>
              intro w
              go_simp
              try with_reducible rfl
            simp only [List.set_cons_zero, List.set_cons_succ]
            refine takeC 1 29 (v := ?_) ops_49_11_1 rfl (by kernel_rfl) (by kernel_rfl) (by kernel_rfl) (by rfl) (fun _ _ _ h => h) (by rfl) ?y1_2 ?_
            case y1_2 =>
              intro w
              go_simp
              try with_reducible rfl
            simp only [List.set_cons_zero, List.set_cons_succ]
            refine takeC 2 30 (v := ?_) ops_49_11_2 rfl (by kernel_rfl) (by kernel_rfl) (by kernel_rfl) (by rfl) (fun _ _ _ h => h) (by rfl) ?y2_3 ?_
            case y2_3 =>
              intro w
              go_simp
              try with_reducible rfl
            simp only [List.set_cons_zero, List.set_cons_succ]
            refine takeC 3 31 (v := ?_) ops_49_11_3 rfl (by kernel_rfl) (by kernel_rfl) (by kernel_rfl) (by rfl) (fun _ _ _ h => h) (by rfl) ?y3_4 ?_
            case y3_4 =>
              intro w
              go_simp
              try with_reducible rfl
            simp only [List.set_cons_zero, List.set_cons_succ]
            refine takeC 4 32 (v := ?_) ops_49_11_4 rfl (by kernel_rfl) (by kernel_rfl) (by kernel_rfl) (by rfl) (fun _ _ _ h => h) (by rfl) ?y4_5 ?_
            case y4_5 =>
              intro w
              go_simp
              try with_reducible rfl
            simp only [List.set_cons_zero, List.set_cons_succ]
            refine takeC 5 33 (v := ?_) ops_49_11_5 rfl (by kernel_rfl) (by kernel_rfl) (by kernel_rfl) (by rfl) (fun _ _ _ h => h) (by rfl) ?y5_6 ?_
            case y5_6 =>
              intro w
              go_simp
              try with_reducible rfl
            simp only [List.set_cons_zero, List.set_cons_succ]
            refine takeC 6 34 (v := ?_) ops_49_11_6 rfl (by kernel_rfl) (by kernel_rfl) (by kernel_rfl) (by rfl) (fun _ _ _ h => h) (by rfl) ?y6_7 ?_
            case y6_7 =>
              intro w
              go_simp
              try with_reducible rfl
            simp only [List.set_cons_zero, List.set_cons_succ]
            refine takeC 8 36 (v := ?_) ops_49_11_8 rfl (by kernel_rfl) (by kernel_rfl) (by kernel_rfl) (by rfl) (fun _ _ _ h => h) (by rfl) ?y8_8 ?_
            case y8_8 =>
              intro w
              go_simp
              try with_reducible rfl
            simp only [List.set_cons_zero, List.set_cons_succ]
            refine takeC 9 37 (v := ?_) ops_49_11_9 rfl (by kernel_rfl) (by kernel_rfl) (by kernel_rfl) (by rfl) (fun _ _ _ h => h) (by rfl) ?y9_9 ?_
            case y9_9 =>
              intro w
              go_simp
              try with_reducible rfl
            simp only [List.set_cons_zero, List.set_cons_succ]
            refine takeC 10 38 (v := ?_) ops_49_11_10 rfl (by kernel_rfl) (by kernel_rfl) (by kernel_rfl) (by rfl) (fun _ _ _ h => h) (by rfl) ?y10_10 ?_
            case y10_10 =>
              intro w
              go_simp
              try with_reducible rfl
            simp only [List.set_cons_zero, List.set_cons_succ]
            refine loadC 7 35 (v := ?_) ops_49_11_7 rfl (by kernel_rfl) (by kernel_rfl) (by kernel_rfl) (by kernel_rfl) (fun _ _ _ h => h) (by rfl) ?y7_11 (by exact hC) ?_
            case y7_11 =>
              intro w hSw
              try dsimp only at hSw
              go_simp
              try with_reducible rfl
            simp only [List.set_cons_zero, List.set_cons_succ]
            refine loadC 11 39 (v := ?_) ops_49_11_11 rfl (by kernel_rfl) (by kernel_rfl) (by kernel_rfl) (by kernel_rfl) (fun _ _ _ h => h) (by rfl) ?y11_12 (by exact hC) ?_
            case y11_12 =>
              intro w hSw
              try dsimp only at hSw
              go_simp
              try with_reducible rfl
            simp only [List.set_cons_zero, List.set_cons_succ]
            refine takeC 12 40 (v := ?_) ops_49_11_12 rfl (by kernel_rfl) (by kernel_rfl) (by kernel_rfl) (by rfl) (fun _ _ _ h => h) (by rfl) ?y12_13 ?_
            case y12_13 =>
              intro w
              go_simp
              try with_reducible rfl
            simp only [List.set_cons_zero, List.set_cons_succ]
            refine readyC (rs := [13]) (by kernel_rfl) (by simp) (each_cons (runC ops_49_11_13 (by rfl) (fun K hK => ?_)) each_nil)
            have f1 := hX.free j
            obtain ⟨z1, -, q1⟩ := hX.cell hj
            go_simp
            replace hX := hX.put hBw hgb hj hy
            clear f1 q1
            refine hK.out _ _ (fun h => absurd h (by decide)) ?_
            clear hK K
            try simp only [List.setIfInBounds_toArray, List.set_cons_zero, List.set_cons_succ]
            refine takeC 14 41 (v := ?_) ops_49_11_14 rfl (by kernel_rfl) (by kernel_rfl) (by kernel_rfl) (by rfl) (fun _ _ _ h => h) (by rfl) ?y14_14 ?_
            case y14_14 =>
              intro w
              go_simp
              try with_reducible rfl
            simp only [List.set_cons_zero, List.set_cons_succ]
            refine readyC (rs := [15]) (by kernel_rfl) (by simp) (each_cons (runC ops_49_11_15 (by rfl) (fun K hK => ?_)) each_nil)
            have f2 := hX.free q
            obtain ⟨z2, -, q2⟩ := hX.cell hq'
            go_simp
            replace hX := hX.put hBw hgb hq' hx
            clear f2 q2
            refine hK.out _ _ (fun h => absurd h (by decide)) ?_
            clear hK K
            try simp only [List.setIfInBounds_toArray, List.set_cons_zero, List.set_cons_succ]
            refine doneC (by kernel_rfl) ?_ _
            go_wp2_with fail
            go_roundw
            case rel => exact ⟨j - 1, by omega, by congr 1; omega, hX.mono (by omega)⟩
            case measure => simp [intOf]; omega
        · obtain rfl : j = 0 := by omega
          go_wp2_with fail
          go_ret
          exact ⟨_, hX.made hn hle hgb, rfl, hX.st.mono (by omega), hX.gb⟩
end Go.Proofs.YthlfjfmlmcoihaaGreat
/- slices.Clone at strings. -/
namespace Go.Proofs.YthlfjfmlmcoihaaGreat
open Go.RowKit

set_option maxRecDepth 100000 in
set_option maxHeartbeats 1000000 in
theorem cloneS_calls (lo : Nat) (v : Value) (fs : List ByteArray) (w : World) (hv : Strs w lo v fs) :
    Calls Tryz.prog 46 #[v] w fun e w' => ∃ v', w'.ownsRow w.heap.size 9 1 v' fs.length (fs.map .string) ∧ e = .returned v' ∧ Below w.heap.size w w' := by
  obtain ⟨i0, hi, hz0, hz1, hz2⟩ := info_parts info_str
  have hnil := fun a n c => Lib.run_eql_slice_nil (P := Tryz.prog) w 39 9 a n c 0 0 Tryz.underlying39
  rcases hv.shape with ⟨rfl, h0⟩ | ⟨g, off, cap, cur, fr, rfl, hlc, hg, hc⟩
  · obtain rfl : fs = [] := by simpa using h0
    clear hv hi hz0 hz1 hz2
    go_enter Tryz.func46, Tryz.ntmps46
    go_wp2_with fail
    go_ret
    exact ⟨_, World.ownsRow_nil _ _ _ _, rfl, Below.refl _ _⟩
  · clear hlc
    have hn := hv.small
    simp only [List.length_map] at hn
    have hgl := lt_of_heap hg
    have hflat : ∀ j u, (fs.map Value.string)[j]? = some u → cur[off + j]? = some u := by
      intro j u hu
      rw [List.getElem?_map] at hu
      obtain ⟨f, hf, rfl⟩ := Option.map_eq_some_iff.1 hu
      have h3 := hc j 0 (.string f) (by simp [hf])
      simpa using h3
    have hown : (w.alloc (.cells #[] 9)).ownsRow w.heap.size 9 1 (.slice (some ⟨w.heap.size, 0, none⟩) 0 0) 0 [] := World.ownsRow_made w #[] 0 (Nat.le_refl _) (by unfold maxLen; omega) rfl
    have hnews : ∀ j u, (fs.map Value.string)[j]? = some u → (w.alloc (.cells #[] 9)).cell? ((⟨g, off, none⟩ : Addr).add j) = some u := by
      intro j u hu
      have hadd : (⟨g, off, none⟩ : Addr).add j = ⟨g, off + j, none⟩ := by unfold Addr.add; split <;> simp_all
      rw [hadd, World.cell?_alloc_past _ _ _ hgl, cell_of_row w g _ cur _ fr hg]
      exact hflat j u hu
    have Hn := Lib.hid hnews
    have Hl := Lib.hid (show (fs.map Value.string).length = fs.length * 1 by simp)
    clear hnews hc hflat hg hv
    simp only [List.length_map]
    go_enter Tryz.func46, Tryz.ntmps46
    go_wp2_with (at_builtin; refine wpList_append_own _ rfl _ _ 39 rfl w.heap.size 9 i0 (.string ⟨#[]⟩) 1 16 Tryz.underlying39 hi hz0 hz1 hz2 rfl (by decide) _ 0 [] rfl hown ⟨g, off, none⟩ fs.length cap ((fs.map Value.string)) rfl Hl.out Hn.out ?c2 ?c3 ?c4 ?c5 ?_)
    case c2 =>
      intro u hu
      obtain ⟨f, _, rfl⟩ := List.mem_map.1 hu
      rfl
    case c3 => unfold maxLen; omega
    case c4 => omega
    case c5 => simp
    intro v' w4 hown4 hgrow _
    go_wp2_with fail
    go_ret
    refine ⟨_, ?_, rfl, (below_alloc w _).grown hgrow (by simp) fun r hr => (own_block hown r hr).1⟩
    simpa using hown4

end Go.Proofs.YthlfjfmlmcoihaaGreat
namespace Go.Proofs.YthlfjfmlmcoihaaGreat
open Go.RowKit

theorem own_mono {w : World} {base base' e size : Nat} {v : Value} {n : Nat} {xs : List Value} (h : w.ownsRow base e size v n xs) (hb : base' ≤ base) : w.ownsRow base' e size v n xs := by
  refine ⟨h.1, ?_⟩
  rcases h.2 with h | ⟨g, cap, cur, e, hg, rest⟩
  · exact .inl h
  · exact .inr ⟨g, cap, cur, e, Nat.le_trans hb hg, rest⟩
/-- Names that are small, at most m of them. -/
def NamesV (lo m : Nat) (w : World) (v : Value) : Prop := ∃ ks : List ByteArray, w.ownsRow lo 9 1 v ks.length (ks.map .string) ∧ ks.length ≤ m ∧ ∀ k ∈ ks, k.size ≤ 1000
def P_zed : ByteArray := ⟨#[122, 101, 100]⟩
set_option maxRecDepth 100000 in
set_option maxHeartbeats 4000000 in
theorem someOf_calls (B N lo : Nat) (v : Value) (xs : List ScD) (w : World) (hs : St w B N) (hN : N ≤ 3970000) (hC : Scs w lo v xs) (hlo : B < lo) (hn : xs.length ≤ 100) (hsm : ∀ c ∈ xs, SmallSc c) :
    Calls Tryz.prog 29 #[.pointer (some ⟨B, 0, none⟩), v] w (Made B (N + 2 * xs.length + 2) (NamesV w.heap.size (xs.length + 1)) w) := by
  obtain ⟨i0, hi, hz0, hz1, hz2⟩ := info_parts info_str
  have hBw := hs.lt
  have HC := Lib.hid hC
  have Hsm := Lib.hid hsm
  obtain ⟨a, c, rfl⟩ := NRows.shape hC
  obtain ⟨n, hn'⟩ : ∃ n, n = xs.length := ⟨_, rfl⟩
  have Hn := Lib.hid hn'
  rw [← hn'] at hn ⊢
  clear hC hsm hn'
  go_enter Tryz.func29, Tryz.ntmps29
  go_wp2_with fail
  refine (order_calls B N n w hs (by omega) (by omega)).mono ?_
  rintro e w1 ⟨v, hO, rfl, hs1, hg1⟩
  obtain ⟨oa, oc, rfl⟩ := hO.shape
  have HO := Lib.hid hO
  have hsz := hg1.size
  clear hs hO
  go_wp2_with fail
  go_loopw [5, 13] (fun out i wr => ∃ (k : Nat) (ks : List ByteArray), k ≤ n ∧ i = .int .i64 k ∧ wr.ownsRow w1.heap.size 9 1 out ks.length (ks.map .string) ∧ ks.length ≤ k ∧ Hid (∀ s ∈ ks, s.size ≤ 1000) ∧ St wr B (N + n + k) ∧ w1.grownBy wr (some B)) (fun _ i _ => n - (intOf i).toNat)
  case atStart => exact ⟨0, [], Nat.zero_le _, rfl, World.ownsRow_nil _ _ _ _, by simp, Lib.hid (by simp), hs1, gb_refl _ _⟩
  case round =>
    obtain ⟨k, ks, hk, rfl, hown, hkl, Hks, hsr, hg⟩ := hrel
    clear hs1
    by_cases hlt : k < n
    · have hlt' : (k : Int) < (n : Int) := by omega
      obtain ⟨og, oo, x, rfl, hog, hog1, hx, hcx⟩ := (HO.out.other hg hBw).at hlt
      go_wp2_with fail
      refine (flip_calls B _ 2 _ hsr (by omega) (by omega) (by omega)).mono ?_
      rintro e w2 ⟨v, ⟨b, rfl⟩, rfl, hs2, hg2⟩
      have hg12 := gb_trans hg hg2
      have hown2 := hown.kept hg2 (.inr fun e => by have := (own_block hown B e).1; omega)
      clear hcx hsr hg hown
      cases b
      · go_wp2_with fail
        go_roundw
        case rel => exact ⟨k + 1, ks, by omega, by go_num, hown2, by omega, Hks, hs2.mono (by omega), hg12⟩
        case measure => simp [intOf]; omega
      · rcases scs_at (NRows.other HC.out (gb_trans hg1 hg12) hlo) with ⟨_, h⟩ | ⟨g, off, cap, e, _, hgl, _, hcell⟩
        · have := Hn.out; rw [h] at this; simp at this; omega
        simp only [Value.slice.injEq] at e
        obtain ⟨rfl, -, rfl⟩ := e
        obtain ⟨s, hs'⟩ : ∃ s, xs[x]? = some s := ⟨_, List.getElem?_eq_getElem (by have := Hn.out; omega)⟩
        obtain ⟨_, q0, _⟩ := hcell x s hs'
        have Hss := Lib.hid (Hsm.out s (List.mem_of_getElem? hs')).1
        have hxn : (x : Int) < (n : Int) := by omega
        have hz := hg12.size
        clear hs' hcell
        go_wp2_with (at_builtin; refine wpList_append_own _ rfl _ _ 39 rfl w1.heap.size 9 i0 (.string ⟨#[]⟩) 1 16 Tryz.underlying39 hi hz0 hz1 hz2 rfl (by decide) _ _ _ rfl (hown2.alloc _) ⟨w2.heap.size, 0, none⟩ 1 1 [.string s.who] rfl rfl ?c1 ?c2 ?c3 ?c4 ?c5 ?_)
        case c1 => exact cells_new _ _ _
        case c2 => simp [Value.oneCell']
        case c3 => unfold maxLen; omega
        case c4 => omega
        case c5 => simp; omega
        intro v' w4 hown4 hgrow _
        go_wp2_with fail
        go_roundw
        case rel =>
          refine ⟨k + 1, ks ++ [s.who], by omega, by go_num, by simpa using hown4, by simp; omega, Lib.hid fun y hy => ?_, ((hs2.alloc _).grown hgrow fun r hr => ?_).mono (by omega), gb_then (gb_trans hg12 (gb_alloc _ _ _)) hgrow fun r hr => ?_⟩
          · rcases List.mem_append.1 hy with h | h
            · exact Hks.out y h
            · obtain rfl := List.mem_singleton.1 h; exact Hss.out
          · have := (own_block hown2 r hr).1; omega
          · have := (own_block hown2 r hr).1; omega
        case measure => simp [intOf]; omega
    · obtain rfl : k = n := by omega
      go_wp2_with fail
      refine (flip_calls B _ 15 _ hsr (by omega) (by omega) (by omega)).mono ?_
      rintro e w2 ⟨v, ⟨b, rfl⟩, rfl, hs2, hg2⟩
      have hg12 := gb_trans hg hg2
      have hown2 := hown.kept hg2 (.inr fun e => by have := (own_block hown B e).1; omega)
      clear hsr hg hown
      cases b
      · go_wp2_with fail
        go_ret
        exact ⟨_, ⟨ks, own_mono hown2 hsz, by omega, Hks.out⟩, rfl, hs2.mono (by omega), gb_trans hg1 hg12⟩
      · go_wp2_with fail
        refine (some_calls B _ w2.heap.size _ [P_ann, P_zed] _ (hs2.alloc _) (by omega) (strs_new w2 [P_ann, P_zed] (by simp)) hs2.lt (by simp)).mono ?_
        rintro e w3 ⟨v, ⟨s, rfl, hs'⟩, rfl, hs3, hg3⟩
        have Hss := Lib.hid (show s.size ≤ 1000 by
          simp only [List.mem_cons, List.not_mem_nil, or_false] at hs'
          rcases hs' with rfl | rfl <;> decide)
        have hown3 := (hown2.alloc (.cells ([P_ann, P_zed].map Value.string).toArray 9)).kept hg3 (.inr fun e => by have := (own_block hown2 B e).1; omega)
        have hg13 := gb_trans hg12 (gb_trans (gb_alloc w2 (.cells ([P_ann, P_zed].map Value.string).toArray 9) _) hg3)
        have hz := hg13.size
        clear hs' hs2 hg2 hg3 hown2 hg12
        go_wp2_with (at_builtin; refine wpList_append_own _ rfl _ _ 39 rfl w1.heap.size 9 i0 (.string ⟨#[]⟩) 1 16 Tryz.underlying39 hi hz0 hz1 hz2 rfl (by decide) _ _ _ rfl (hown3.alloc _) ⟨w3.heap.size, 0, none⟩ 1 1 [.string s] rfl rfl ?c1 ?c2 ?c3 ?c4 ?c5 ?_)
        case c1 => exact cells_new _ _ _
        case c2 => simp [Value.oneCell']
        case c3 => unfold maxLen; omega
        case c4 => omega
        case c5 => simp; omega
        intro v' w4 hown4 hgrow _
        go_wp2_with fail
        go_ret
        refine ⟨_, ⟨ks ++ [s], own_mono (by simpa using hown4) hsz, by simp; omega, fun y hy => ?_⟩, rfl, ((hs3.alloc _).grown hgrow fun r hr => ?_).mono (by omega), gb_trans hg1 (gb_then (gb_trans hg13 (gb_alloc _ _ _)) hgrow fun r hr => ?_)⟩
        · rcases List.mem_append.1 hy with h | h
          · exact Hks.out y h
          · obtain rfl := List.mem_singleton.1 h; exact Hss.out
        · have := (own_block hown3 r hr).1; omega
        · have := (own_block hown3 r hr).1; omega
end Go.Proofs.YthlfjfmlmcoihaaGreat
