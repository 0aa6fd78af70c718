/- How rules are drawn. -/
import Derived.Test.YtmejjkicagkogaaGreatDoorSms
import Derived.Test.YtmejjkicagkogaaGreatDoorRegc
namespace Go.Proofs.YtmejjkicagkogaaGreatDoor
open Go.RowKit

/-- Rules in block g, one of which is written: the stream goes on. -/
def WS (w : World) (B g m i n : Nat) (w' : World) : Prop :=
  ∃ (rs : List RD) (r : RD), rs.length = m ∧ rs[i]? = some r ∧ (∀ x ∈ rs, SmallR x) ∧ RowsAt w' 40 g 0 7 (rs.map rlRow) ∧ St w' B n ∧ w.grownBy w' (some B)
theorem WS.st {w : World} {B g m i n : Nat} {w' : World} (h : WS w B g m i n w') : St w' B n := by obtain ⟨_, _, _, _, _, _, h, _⟩ := h; exact h
theorem WS.gb {w : World} {B g m i n : Nat} {w' : World} (h : WS w B g m i n w') : w.grownBy w' (some B) := by obtain ⟨_, _, _, _, _, _, _, h⟩ := h; exact h
theorem WS.mono {w : World} {B g m i n k : Nat} {w' : World} (h : WS w B g m i n w') (hk : n ≤ k) : WS w B g m i k w' := by
  obtain ⟨rs, r, h1, h2, h3, h4, h5, h6⟩ := h; exact ⟨rs, r, h1, h2, h3, h4, h5.mono hk, h6⟩
theorem WS.step {w : World} {B g m i n k : Nat} {w' w'' : World} (h : WS w B g m i n w') (hs : St w'' B k) (hg : w'.grownBy w'' (some B)) (hne : g ≠ B) : WS w B g m i k w'' := by
  obtain ⟨rs, r, h1, h2, h3, h4, h5, h6⟩ := h
  exact ⟨rs, r, h1, h2, h3, h4.lift (hg.block g h4.lt (by intro e; cases e; exact hne rfl)), hs, gb_trans h6 hg⟩
theorem WS.alloc {w : World} {B g m i n : Nat} {w' : World} (h : WS w B g m i n w') (o : Obj) : WS w B g m i n (w'.alloc o) := by
  obtain ⟨rs, r, h1, h2, h3, h4, h5, h6⟩ := h
  exact ⟨rs, r, h1, h2, h3, h4.below (below_alloc w' o), h5.alloc o, gb_trans h6 (gb_alloc w' o _)⟩
theorem WS.drew {w : World} {B g m i n : Nat} {w' : World} (h : WS w B g m i n w') : WS w B g m i n w'.drew := by
  obtain ⟨rs, r, h1, h2, h3, h4, h5, h6⟩ := h
  exact ⟨rs, r, h1, h2, h3, h4, h5, gb_trans h6 (gb_drewN w' 1 _)⟩
theorem WS.cells {w : World} {B g m i n : Nat} {w' : World} (h : WS w B g m i n w') : ∃ r : RD, SmallR r ∧
    w'.cell? ⟨g, i * 7, none⟩ = some (.string r.key) ∧ w'.cell? ⟨g, i * 7 + 1, none⟩ = some (.string r.stat) ∧ w'.cell? ⟨g, i * 7 + 2, none⟩ = some (.string r.pos) ∧ w'.cell? ⟨g, i * 7 + 3, none⟩ = some (.int .i64 r.kind) ∧ w'.cell? ⟨g, i * 7 + 4, none⟩ = some (.int .i64 r.many) ∧
      w'.cell? ⟨g, i * 7 + 5, none⟩ = some (.int .i64 r.num) ∧ w'.cell? ⟨g, i * 7 + 6, none⟩ = some (.int .i64 r.den) ∧ ∀ o, w'.frozen? ⟨g, o, none⟩ = false := by
  obtain ⟨rs, r, h1, h2, h3, h4, h5, h6⟩ := h
  have hx : ∀ (j : Nat) (u : Value), (rlRow r)[j]? = some u → w'.cell? ⟨g, i * 7 + j, none⟩ = some u := fun j u hu => by
    have := h4.cell (i := i) (j := j) (r := rlRow r) (u := u) (by simp [h2]) hu
    simpa using this
  exact ⟨r, h3 r (List.mem_of_getElem? h2), hx 0 _ rfl, hx 1 _ rfl, hx 2 _ rfl, hx 3 _ rfl, hx 4 _ rfl, hx 5 _ rfl, hx 6 _ rfl, fun o => h4.free o⟩
/-- One cell of the rule is written. -/
theorem WS.put {w : World} {B g m i n : Nat} {w' : World} (h : WS w B g m i n w') (hB : B < w.heap.size) (hg : w.heap.size ≤ g) (f : Nat) (u : Value) (hf : f < 7) (hu : ∀ r : RD, SmallR r → ∃ r' : RD, SmallR r' ∧ (rlRow r).set f u = rlRow r') : WS w B g m i n (w'.setCell ⟨g, i * 7 + f, none⟩ u) := by
  obtain ⟨rs, r, h1, h2, h3, h4, h5, h6⟩ := h
  obtain ⟨r', hr', he⟩ := hu r (h3 r (List.mem_of_getElem? h2))
  have hi : i < rs.length := (List.getElem?_eq_some_iff.1 h2).1
  have hs := h4.set (i := i) (f := f) (row := rlRow r) (by simp [h2]) hf u
  rw [he, Nat.zero_add, ← List.map_set] at hs
  have hgr := gb_setCell w' g (i * 7 + f) u
  refine ⟨rs.set i r', r', by simpa using h1, by simp [hi], fun x hx => ?_, hs, h5.grown hgr fun r hr => by cases hr; omega, gb_then h6 hgr fun r hr => by cases hr; exact hg⟩
  rcases List.mem_or_eq_of_mem_set hx with hx | rfl
  · exact h3 x hx
  · exact hr'
theorem WS.key {w : World} {B g m i n : Nat} {w' : World} (h : WS w B g m i n w') (hB : B < w.heap.size) (hg : w.heap.size ≤ g) (k : ByteArray) (hk : k.size ≤ 1000) : WS w B g m i n (w'.setCell ⟨g, i * 7, none⟩ (.string k)) :=
  h.put hB hg 0 _ (by omega) fun r hr => ⟨{ r with key := k }, ⟨hk, hr.2⟩, rfl⟩
theorem WS.stat {w : World} {B g m i n : Nat} {w' : World} (h : WS w B g m i n w') (hB : B < w.heap.size) (hg : w.heap.size ≤ g) (k : ByteArray) (hk : k.size ≤ 1000) : WS w B g m i n (w'.setCell ⟨g, i * 7 + 1, none⟩ (.string k)) :=
  h.put hB hg 1 _ (by omega) fun r hr => ⟨{ r with stat := k }, ⟨hr.1, hk, hr.2.2⟩, rfl⟩
theorem WS.pos {w : World} {B g m i n : Nat} {w' : World} (h : WS w B g m i n w') (hB : B < w.heap.size) (hg : w.heap.size ≤ g) (k : ByteArray) (hk : k.size ≤ 1000) : WS w B g m i n (w'.setCell ⟨g, i * 7 + 2, none⟩ (.string k)) :=
  h.put hB hg 2 _ (by omega) fun r hr => ⟨{ r with pos := k }, ⟨hr.1, hr.2.1, hk, hr.2.2.2⟩, rfl⟩
theorem WS.kind {w : World} {B g m i n : Nat} {w' : World} (h : WS w B g m i n w') (hB : B < w.heap.size) (hg : w.heap.size ≤ g) (k : Int) (hk : Int64 k) : WS w B g m i n (w'.setCell ⟨g, i * 7 + 3, none⟩ (.int .i64 k)) :=
  h.put hB hg 3 _ (by omega) fun r hr => ⟨{ r with kind := k }, ⟨hr.1, hr.2.1, hr.2.2.1, hk, hr.2.2.2.2⟩, rfl⟩
theorem WS.many {w : World} {B g m i n : Nat} {w' : World} (h : WS w B g m i n w') (hB : B < w.heap.size) (hg : w.heap.size ≤ g) (k : Int) (hk : Int64 k) : WS w B g m i n (w'.setCell ⟨g, i * 7 + 4, none⟩ (.int .i64 k)) :=
  h.put hB hg 4 _ (by omega) fun r hr => ⟨{ r with many := k }, ⟨hr.1, hr.2.1, hr.2.2.1, hr.2.2.2.1, hk, hr.2.2.2.2.2⟩, rfl⟩
theorem WS.num {w : World} {B g m i n : Nat} {w' : World} (h : WS w B g m i n w') (hB : B < w.heap.size) (hg : w.heap.size ≤ g) (k : Int) (hk : Int64 k) : WS w B g m i n (w'.setCell ⟨g, i * 7 + 5, none⟩ (.int .i64 k)) :=
  h.put hB hg 5 _ (by omega) fun r hr => ⟨{ r with num := k }, ⟨hr.1, hr.2.1, hr.2.2.1, hr.2.2.2.1, hr.2.2.2.2.1, hk, hr.2.2.2.2.2.2⟩, rfl⟩
theorem WS.den {w : World} {B g m i n : Nat} {w' : World} (h : WS w B g m i n w') (hB : B < w.heap.size) (hg : w.heap.size ≤ g) (k : Int) (hk : Int64 k) : WS w B g m i n (w'.setCell ⟨g, i * 7 + 6, none⟩ (.int .i64 k)) :=
  h.put hB hg 6 _ (by omega) fun r hr => ⟨{ r with den := k }, ⟨hr.1, hr.2.1, hr.2.2.1, hr.2.2.2.1, hr.2.2.2.2.1, hr.2.2.2.2.2.1, hk⟩, rfl⟩
theorem ws_vals {w : World} {B g m i n : Nat} {w' : World} (h : WS w B g m i n w') (ks : List ByteArray) (hk : ks.length ≤ 1000000) :
    ∃ v, Value.slice (some ⟨w'.heap.size, 0, none⟩) ks.length ks.length = v ∧ Strs (w'.alloc (.cells (ks.map Value.string).toArray 9)) w'.heap.size v ks ∧ B < w'.heap.size := ⟨_, rfl, strs_new w' ks hk, h.st.lt⟩
theorem ws_strs {w : World} {B g m i n : Nat} {w' : World} (h : WS w B g m i n w') (ks : List ByteArray) (hk : ks.length ≤ 1000000) :
    Strs (w'.alloc (.cells (ks.map Value.string).toArray 9)) w'.heap.size (.slice (some ⟨w'.heap.size, 0, none⟩) ks.length ks.length) ks ∧ B < w'.heap.size := ⟨strs_new w' ks hk, h.st.lt⟩
theorem gb_cells2 {w w' : World} {B g o p : Nat} {a b : Value} (hg : w.grownBy w' (some B)) (hne : g ≠ B) (h : w.cell? ⟨g, o, none⟩ = some a ∧ w.cell? ⟨g, p, none⟩ = some b) : w'.cell? ⟨g, o, none⟩ = some a ∧ w'.cell? ⟨g, p, none⟩ = some b :=
  ⟨gb_cell hg h.1 hne, gb_cell hg h.2 hne⟩
def E_A : ByteArray := ⟨#[65]⟩
/-- Rules, drawn. -/
def SomeRls (lo : Nat) (w : World) (v : Value) : Prop := ∃ rs, Rls w lo v rs ∧ rs.length ≤ 5 ∧ ∀ r ∈ rs, SmallR r
theorem WS.made {w : World} {B g m i n c : Nat} {w' : World} (h : WS w B g m i n w') (hm : m ≤ 5) (hc : m ≤ c) (hg : w.heap.size ≤ g) : SomeRls w.heap.size w' (.slice (some ⟨g, 0, none⟩) m c) := by
  obtain ⟨rs, r, h1, h2, h3, h4, h5, h6⟩ := h
  refine ⟨rs, ?_, by omega, h3⟩
  have := h4.rows (lo := w.heap.size) (cap := c) (by simp; omega) hg (by simp; omega)
  rw [List.length_map, h1] at this
  exact this
def ops_4_7 : Array Go.Oper := #[
  { dst := some 29, op := Go.Op.move (Go.Operand.tmp 4), type := 44, pos := "h10_players.go:225", after := #[], guard := none },
  { dst := some 30, op := Go.Op.move (Go.Operand.tmp 4), type := 44, pos := "h10_players.go:225", after := #[{ on := 22, ground := Go.Ground.gcOnly Go.Departure.lateStores }], guard := none },
  { dst := some 31, op := Go.Op.move (Go.Operand.tmp 4), type := 44, pos := "h10_players.go:225", after := #[{ on := 25, ground := Go.Ground.gcOnly Go.Departure.lateStores }], guard := none },
  { dst := some 32, op := Go.Op.move (Go.Operand.tmp 0), type := 23, pos := "h10_players.go:225", after := #[], guard := none },
  { dst := some 33, op := Go.Op.move (Go.Operand.tmp 4), type := 44, pos := "h10_players.go:225", after := #[], guard := none },
  { dst := some 34, op := Go.Op.nilCheck (Go.Operand.tmp 33), type := 0, pos := "h10_players.go:225", after := #[{ on := 4, ground := Go.Ground.data }], guard := none },
  { dst := some 35, op := Go.Op.fieldAddr 40 (Go.Operand.tmp 34) 0, type := 0, pos := "h10_players.go:225", after := #[{ on := 5, ground := Go.Ground.data }], guard := none },
  { dst := some 36, op := Go.Op.load 9 (Go.Operand.tmp 35), type := 9, pos := "h10_players.go:225", after := #[{ on := 6, ground := Go.Ground.data }], guard := none },
  { dst := some 37, op := Go.Op.buildSlice 52 3 #[(0, Go.Operand.const (Go.Value.string { data := #[] })), (1, Go.Operand.tmp 36), (2, Go.Operand.const (Go.Value.string { data := #[114, 97] }))], type := 52, pos := "h10_players.go:225", after := #[{ on := 7, ground := Go.Ground.data }], guard := none },
  { dst := some 38, op := Go.Op.call { callee := Go.Callee.value (Go.Operand.func 16), args := #[Go.Operand.tmp 32, Go.Operand.tmp 37], argTypes := #[23, 52] }, type := 9, pos := "h10_players.go:225", after := #[{ on := 3, ground := Go.Ground.data }, { on := 8, ground := Go.Ground.data }], guard := none },
  { dst := some 39, op := Go.Op.move (Go.Operand.tmp 0), type := 23, pos := "h10_players.go:225", after := #[], guard := none },
  { dst := some 40, op := Go.Op.move (Go.Operand.tmp 4), type := 44, pos := "h10_players.go:225", after := #[], guard := none },
  { dst := some 41, op := Go.Op.nilCheck (Go.Operand.tmp 40), type := 0, pos := "h10_players.go:225", after := #[{ on := 11, ground := Go.Ground.data }], guard := none },
  { dst := some 42, op := Go.Op.fieldAddr 40 (Go.Operand.tmp 41) 1, type := 0, pos := "h10_players.go:225", after := #[{ on := 12, ground := Go.Ground.data }], guard := none },
  { dst := some 43, op := Go.Op.load 9 (Go.Operand.tmp 42), type := 9, pos := "h10_players.go:225", after := #[{ on := 13, ground := Go.Ground.data }], guard := none },
  { dst := some 44, op := Go.Op.buildSlice 52 2 #[(0, Go.Operand.tmp 43), (1, Go.Operand.const (Go.Value.string { data := #[] }))], type := 52, pos := "h10_players.go:225", after := #[{ on := 14, ground := Go.Ground.data }], guard := none },
  { dst := some 45, op := Go.Op.call { callee := Go.Callee.value (Go.Operand.func 16), args := #[Go.Operand.tmp 39, Go.Operand.tmp 44], argTypes := #[23, 52] }, type := 9, pos := "h10_players.go:225", after := #[{ on := 10, ground := Go.Ground.data }, { on := 15, ground := Go.Ground.data }, { on := 9, ground := Go.Ground.chain }], guard := none },
  { dst := some 46, op := Go.Op.move (Go.Operand.tmp 0), type := 23, pos := "h10_players.go:225", after := #[], guard := none },
  { dst := some 47, op := Go.Op.buildSlice 52 2 #[(0, Go.Operand.const (Go.Value.string { data := #[] })), (1, Go.Operand.const (Go.Value.string { data := #[65] }))], type := 52, pos := "h10_players.go:225", after := #[], guard := none },
  { dst := some 48, op := Go.Op.call { callee := Go.Callee.value (Go.Operand.func 16), args := #[Go.Operand.tmp 46, Go.Operand.tmp 47], argTypes := #[23, 52] }, type := 9, pos := "h10_players.go:225", after := #[{ on := 17, ground := Go.Ground.data }, { on := 18, ground := Go.Ground.data }, { on := 16, ground := Go.Ground.chain }], guard := none },
  { dst := some 49, op := Go.Op.nilCheck (Go.Operand.tmp 29), type := 0, pos := "h10_players.go:225", after := #[{ on := 0, ground := Go.Ground.data }, { on := 0, ground := Go.Ground.phase }, { on := 1, ground := Go.Ground.textOnly Go.Departure.lateStores }, { on := 2, ground := Go.Ground.textOnly Go.Departure.lateStores }, { on := 3, ground := Go.Ground.phase }, { on := 4, ground := Go.Ground.phase }, { on := 5, ground := Go.Ground.phase }, { on := 6, ground := Go.Ground.phase }, { on := 7, ground := Go.Ground.phase }, { on := 8, ground := Go.Ground.phase }, { on := 9, ground := Go.Ground.phase }, { on := 10, ground := Go.Ground.textOnly Go.Departure.lateStores }, { on := 11, ground := Go.Ground.textOnly Go.Departure.lateStores }, { on := 12, ground := Go.Ground.textOnly Go.Departure.lateStoresUnsure }, { on := 13, ground := Go.Ground.textOnly Go.Departure.lateStoresUnsure }, { on := 14, ground := Go.Ground.phase }, { on := 15, ground := Go.Ground.textOnly Go.Departure.lateStoresUnsure }, { on := 16, ground := Go.Ground.phase }, { on := 17, ground := Go.Ground.textOnly Go.Departure.lateStores }, { on := 18, ground := Go.Ground.textOnly Go.Departure.lateStoresUnsure }, { on := 19, ground := Go.Ground.phase }], guard := none },
  { dst := some 50, op := Go.Op.fieldAddr 40 (Go.Operand.tmp 49) 0, type := 0, pos := "h10_players.go:225", after := #[{ on := 20, ground := Go.Ground.data }, { on := 0, ground := Go.Ground.phase }, { on := 1, ground := Go.Ground.textOnly Go.Departure.lateStores }, { on := 2, ground := Go.Ground.textOnly Go.Departure.lateStores }, { on := 3, ground := Go.Ground.phase }, { on := 4, ground := Go.Ground.phase }, { on := 5, ground := Go.Ground.phase }, { on := 6, ground := Go.Ground.phase }, { on := 7, ground := Go.Ground.phase }, { on := 8, ground := Go.Ground.phase }, { on := 9, ground := Go.Ground.phase }, { on := 10, ground := Go.Ground.textOnly Go.Departure.lateStores }, { on := 11, ground := Go.Ground.textOnly Go.Departure.lateStores }, { on := 12, ground := Go.Ground.textOnly Go.Departure.lateStoresUnsure }, { on := 13, ground := Go.Ground.textOnly Go.Departure.lateStoresUnsure }, { on := 14, ground := Go.Ground.phase }, { on := 15, ground := Go.Ground.textOnly Go.Departure.lateStoresUnsure }, { on := 16, ground := Go.Ground.phase }, { on := 17, ground := Go.Ground.textOnly Go.Departure.lateStores }, { on := 18, ground := Go.Ground.textOnly Go.Departure.lateStoresUnsure }, { on := 19, ground := Go.Ground.phase }], guard := none },
  { dst := none, op := Go.Op.store 9 (Go.Operand.tmp 50) (Go.Operand.tmp 38), type := 0, pos := "h10_players.go:225", after := #[{ on := 21, ground := Go.Ground.data }, { on := 9, ground := Go.Ground.data }, { on := 19, ground := Go.Ground.chain }, { on := 0, ground := Go.Ground.phase }, { on := 1, ground := Go.Ground.textOnly Go.Departure.lateStores }, { on := 2, ground := Go.Ground.textOnly Go.Departure.lateStores }, { on := 3, ground := Go.Ground.phase }, { on := 4, ground := Go.Ground.phase }, { on := 5, ground := Go.Ground.phase }, { on := 6, ground := Go.Ground.phase }, { on := 7, ground := Go.Ground.phase }, { on := 8, ground := Go.Ground.phase }, { on := 9, ground := Go.Ground.phase }, { on := 10, ground := Go.Ground.textOnly Go.Departure.lateStores }, { on := 11, ground := Go.Ground.textOnly Go.Departure.lateStores }, { on := 12, ground := Go.Ground.textOnly Go.Departure.lateStoresUnsure }, { on := 13, ground := Go.Ground.textOnly Go.Departure.lateStoresUnsure }, { on := 14, ground := Go.Ground.phase }, { on := 15, ground := Go.Ground.textOnly Go.Departure.lateStoresUnsure }, { on := 16, ground := Go.Ground.phase }, { on := 17, ground := Go.Ground.textOnly Go.Departure.lateStores }, { on := 18, ground := Go.Ground.textOnly Go.Departure.lateStoresUnsure }, { on := 19, ground := Go.Ground.phase }], guard := none },
  { dst := some 51, op := Go.Op.nilCheck (Go.Operand.tmp 30), type := 0, pos := "h10_players.go:225", after := #[{ on := 1, ground := Go.Ground.data }, { on := 0, ground := Go.Ground.phase }, { on := 1, ground := Go.Ground.phase }, { on := 2, ground := Go.Ground.textOnly Go.Departure.lateStores }, { on := 3, ground := Go.Ground.phase }, { on := 4, ground := Go.Ground.phase }, { on := 5, ground := Go.Ground.phase }, { on := 6, ground := Go.Ground.phase }, { on := 7, ground := Go.Ground.phase }, { on := 8, ground := Go.Ground.phase }, { on := 9, ground := Go.Ground.phase }, { on := 10, ground := Go.Ground.phase }, { on := 11, ground := Go.Ground.phase }, { on := 12, ground := Go.Ground.phase }, { on := 13, ground := Go.Ground.phase }, { on := 14, ground := Go.Ground.phase }, { on := 15, ground := Go.Ground.phase }, { on := 16, ground := Go.Ground.phase }, { on := 17, ground := Go.Ground.textOnly Go.Departure.lateStores }, { on := 18, ground := Go.Ground.textOnly Go.Departure.lateStoresUnsure }, { on := 19, ground := Go.Ground.phase }, { on := 20, ground := Go.Ground.phase }, { on := 21, ground := Go.Ground.phase }, { on := 22, ground := Go.Ground.phase }], guard := none },
  { dst := some 52, op := Go.Op.fieldAddr 40 (Go.Operand.tmp 51) 1, type := 0, pos := "h10_players.go:225", after := #[{ on := 23, ground := Go.Ground.data }, { on := 0, ground := Go.Ground.phase }, { on := 1, ground := Go.Ground.phase }, { on := 2, ground := Go.Ground.textOnly Go.Departure.lateStores }, { on := 3, ground := Go.Ground.phase }, { on := 4, ground := Go.Ground.phase }, { on := 5, ground := Go.Ground.phase }, { on := 6, ground := Go.Ground.phase }, { on := 7, ground := Go.Ground.phase }, { on := 8, ground := Go.Ground.phase }, { on := 9, ground := Go.Ground.phase }, { on := 10, ground := Go.Ground.phase }, { on := 11, ground := Go.Ground.phase }, { on := 12, ground := Go.Ground.phase }, { on := 13, ground := Go.Ground.phase }, { on := 14, ground := Go.Ground.phase }, { on := 15, ground := Go.Ground.phase }, { on := 16, ground := Go.Ground.phase }, { on := 17, ground := Go.Ground.textOnly Go.Departure.lateStores }, { on := 18, ground := Go.Ground.textOnly Go.Departure.lateStoresUnsure }, { on := 19, ground := Go.Ground.phase }, { on := 20, ground := Go.Ground.phase }, { on := 21, ground := Go.Ground.phase }, { on := 22, ground := Go.Ground.phase }], guard := none },
  { dst := none, op := Go.Op.store 9 (Go.Operand.tmp 52) (Go.Operand.tmp 45), type := 0, pos := "h10_players.go:225", after := #[{ on := 24, ground := Go.Ground.data }, { on := 16, ground := Go.Ground.data }, { on := 22, ground := Go.Ground.chain }, { on := 0, ground := Go.Ground.phase }, { on := 1, ground := Go.Ground.phase }, { on := 2, ground := Go.Ground.textOnly Go.Departure.lateStores }, { on := 3, ground := Go.Ground.phase }, { on := 4, ground := Go.Ground.phase }, { on := 5, ground := Go.Ground.phase }, { on := 6, ground := Go.Ground.phase }, { on := 7, ground := Go.Ground.phase }, { on := 8, ground := Go.Ground.phase }, { on := 9, ground := Go.Ground.phase }, { on := 10, ground := Go.Ground.phase }, { on := 11, ground := Go.Ground.phase }, { on := 12, ground := Go.Ground.phase }, { on := 13, ground := Go.Ground.phase }, { on := 14, ground := Go.Ground.phase }, { on := 15, ground := Go.Ground.phase }, { on := 16, ground := Go.Ground.phase }, { on := 17, ground := Go.Ground.textOnly Go.Departure.lateStores }, { on := 18, ground := Go.Ground.textOnly Go.Departure.lateStoresUnsure }, { on := 19, ground := Go.Ground.phase }, { on := 20, ground := Go.Ground.phase }, { on := 21, ground := Go.Ground.phase }, { on := 22, ground := Go.Ground.phase }], guard := none },
  { dst := some 53, op := Go.Op.nilCheck (Go.Operand.tmp 31), type := 0, pos := "h10_players.go:225", after := #[{ on := 2, ground := Go.Ground.data }, { on := 0, ground := Go.Ground.phase }, { on := 1, ground := Go.Ground.phase }, { on := 2, ground := Go.Ground.phase }, { on := 3, ground := Go.Ground.phase }, { on := 4, ground := Go.Ground.phase }, { on := 5, ground := Go.Ground.phase }, { on := 6, ground := Go.Ground.phase }, { on := 7, ground := Go.Ground.phase }, { on := 8, ground := Go.Ground.phase }, { on := 9, ground := Go.Ground.phase }, { on := 10, ground := Go.Ground.phase }, { on := 11, ground := Go.Ground.phase }, { on := 12, ground := Go.Ground.phase }, { on := 13, ground := Go.Ground.phase }, { on := 14, ground := Go.Ground.phase }, { on := 15, ground := Go.Ground.phase }, { on := 16, ground := Go.Ground.phase }, { on := 17, ground := Go.Ground.phase }, { on := 18, ground := Go.Ground.phase }, { on := 19, ground := Go.Ground.phase }, { on := 20, ground := Go.Ground.phase }, { on := 21, ground := Go.Ground.phase }, { on := 22, ground := Go.Ground.phase }, { on := 23, ground := Go.Ground.phase }, { on := 24, ground := Go.Ground.phase }, { on := 25, ground := Go.Ground.phase }], guard := none },
  { dst := some 54, op := Go.Op.fieldAddr 40 (Go.Operand.tmp 53) 2, type := 0, pos := "h10_players.go:225", after := #[{ on := 26, ground := Go.Ground.data }, { on := 0, ground := Go.Ground.phase }, { on := 1, ground := Go.Ground.phase }, { on := 2, ground := Go.Ground.phase }, { on := 3, ground := Go.Ground.phase }, { on := 4, ground := Go.Ground.phase }, { on := 5, ground := Go.Ground.phase }, { on := 6, ground := Go.Ground.phase }, { on := 7, ground := Go.Ground.phase }, { on := 8, ground := Go.Ground.phase }, { on := 9, ground := Go.Ground.phase }, { on := 10, ground := Go.Ground.phase }, { on := 11, ground := Go.Ground.phase }, { on := 12, ground := Go.Ground.phase }, { on := 13, ground := Go.Ground.phase }, { on := 14, ground := Go.Ground.phase }, { on := 15, ground := Go.Ground.phase }, { on := 16, ground := Go.Ground.phase }, { on := 17, ground := Go.Ground.phase }, { on := 18, ground := Go.Ground.phase }, { on := 19, ground := Go.Ground.phase }, { on := 20, ground := Go.Ground.phase }, { on := 21, ground := Go.Ground.phase }, { on := 22, ground := Go.Ground.phase }, { on := 23, ground := Go.Ground.phase }, { on := 24, ground := Go.Ground.phase }, { on := 25, ground := Go.Ground.phase }], guard := none },
  { dst := none, op := Go.Op.store 9 (Go.Operand.tmp 54) (Go.Operand.tmp 48), type := 0, pos := "h10_players.go:225", after := #[{ on := 27, ground := Go.Ground.data }, { on := 19, ground := Go.Ground.data }, { on := 25, ground := Go.Ground.chain }, { on := 0, ground := Go.Ground.phase }, { on := 1, ground := Go.Ground.phase }, { on := 2, ground := Go.Ground.phase }, { on := 3, ground := Go.Ground.phase }, { on := 4, ground := Go.Ground.phase }, { on := 5, ground := Go.Ground.phase }, { on := 6, ground := Go.Ground.phase }, { on := 7, ground := Go.Ground.phase }, { on := 8, ground := Go.Ground.phase }, { on := 9, ground := Go.Ground.phase }, { on := 10, ground := Go.Ground.phase }, { on := 11, ground := Go.Ground.phase }, { on := 12, ground := Go.Ground.phase }, { on := 13, ground := Go.Ground.phase }, { on := 14, ground := Go.Ground.phase }, { on := 15, ground := Go.Ground.phase }, { on := 16, ground := Go.Ground.phase }, { on := 17, ground := Go.Ground.phase }, { on := 18, ground := Go.Ground.phase }, { on := 19, ground := Go.Ground.phase }, { on := 20, ground := Go.Ground.phase }, { on := 21, ground := Go.Ground.phase }, { on := 22, ground := Go.Ground.phase }, { on := 23, ground := Go.Ground.phase }, { on := 24, ground := Go.Ground.phase }, { on := 25, ground := Go.Ground.phase }], guard := none }]
theorem ops_4_7_0 : ops_4_7[0]? = some ({ dst := some 29, op := Go.Op.move (Go.Operand.tmp 4), type := 44, pos := "h10_players.go:225", after := #[], guard := none } : Go.Oper) := rfl
theorem ops_4_7_1 : ops_4_7[1]? = some ({ dst := some 30, op := Go.Op.move (Go.Operand.tmp 4), type := 44, pos := "h10_players.go:225", after := #[{ on := 22, ground := Go.Ground.gcOnly Go.Departure.lateStores }], guard := none } : Go.Oper) := rfl
theorem ops_4_7_2 : ops_4_7[2]? = some ({ dst := some 31, op := Go.Op.move (Go.Operand.tmp 4), type := 44, pos := "h10_players.go:225", after := #[{ on := 25, ground := Go.Ground.gcOnly Go.Departure.lateStores }], guard := none } : Go.Oper) := rfl
theorem ops_4_7_3 : ops_4_7[3]? = some ({ dst := some 32, op := Go.Op.move (Go.Operand.tmp 0), type := 23, pos := "h10_players.go:225", after := #[], guard := none } : Go.Oper) := rfl
theorem ops_4_7_4 : ops_4_7[4]? = some ({ dst := some 33, op := Go.Op.move (Go.Operand.tmp 4), type := 44, pos := "h10_players.go:225", after := #[], guard := none } : Go.Oper) := rfl
theorem ops_4_7_5 : ops_4_7[5]? = some ({ dst := some 34, op := Go.Op.nilCheck (Go.Operand.tmp 33), type := 0, pos := "h10_players.go:225", after := #[{ on := 4, ground := Go.Ground.data }], guard := none } : Go.Oper) := rfl
theorem ops_4_7_6 : ops_4_7[6]? = some ({ dst := some 35, op := Go.Op.fieldAddr 40 (Go.Operand.tmp 34) 0, type := 0, pos := "h10_players.go:225", after := #[{ on := 5, ground := Go.Ground.data }], guard := none } : Go.Oper) := rfl
theorem ops_4_7_7 : ops_4_7[7]? = some ({ dst := some 36, op := Go.Op.load 9 (Go.Operand.tmp 35), type := 9, pos := "h10_players.go:225", after := #[{ on := 6, ground := Go.Ground.data }], guard := none } : Go.Oper) := rfl
theorem ops_4_7_8 : ops_4_7[8]? = some ({ dst := some 37, op := Go.Op.buildSlice 52 3 #[(0, Go.Operand.const (Go.Value.string { data := #[] })), (1, Go.Operand.tmp 36), (2, Go.Operand.const (Go.Value.string { data := #[114, 97] }))], type := 52, pos := "h10_players.go:225", after := #[{ on := 7, ground := Go.Ground.data }], guard := none } : Go.Oper) := rfl
theorem ops_4_7_9 : ops_4_7[9]? = some ({ dst := some 38, op := Go.Op.call { callee := Go.Callee.value (Go.Operand.func 16), args := #[Go.Operand.tmp 32, Go.Operand.tmp 37], argTypes := #[23, 52] }, type := 9, pos := "h10_players.go:225", after := #[{ on := 3, ground := Go.Ground.data }, { on := 8, ground := Go.Ground.data }], guard := none } : Go.Oper) := rfl
theorem ops_4_7_10 : ops_4_7[10]? = some ({ dst := some 39, op := Go.Op.move (Go.Operand.tmp 0), type := 23, pos := "h10_players.go:225", after := #[], guard := none } : Go.Oper) := rfl
theorem ops_4_7_11 : ops_4_7[11]? = some ({ dst := some 40, op := Go.Op.move (Go.Operand.tmp 4), type := 44, pos := "h10_players.go:225", after := #[], guard := none } : Go.Oper) := rfl
theorem ops_4_7_12 : ops_4_7[12]? = some ({ dst := some 41, op := Go.Op.nilCheck (Go.Operand.tmp 40), type := 0, pos := "h10_players.go:225", after := #[{ on := 11, ground := Go.Ground.data }], guard := none } : Go.Oper) := rfl
theorem ops_4_7_13 : ops_4_7[13]? = some ({ dst := some 42, op := Go.Op.fieldAddr 40 (Go.Operand.tmp 41) 1, type := 0, pos := "h10_players.go:225", after := #[{ on := 12, ground := Go.Ground.data }], guard := none } : Go.Oper) := rfl
theorem ops_4_7_14 : ops_4_7[14]? = some ({ dst := some 43, op := Go.Op.load 9 (Go.Operand.tmp 42), type := 9, pos := "h10_players.go:225", after := #[{ on := 13, ground := Go.Ground.data }], guard := none } : Go.Oper) := rfl
theorem ops_4_7_15 : ops_4_7[15]? = some ({ dst := some 44, op := Go.Op.buildSlice 52 2 #[(0, Go.Operand.tmp 43), (1, Go.Operand.const (Go.Value.string { data := #[] }))], type := 52, pos := "h10_players.go:225", after := #[{ on := 14, ground := Go.Ground.data }], guard := none } : Go.Oper) := rfl
theorem ops_4_7_16 : ops_4_7[16]? = some ({ dst := some 45, op := Go.Op.call { callee := Go.Callee.value (Go.Operand.func 16), args := #[Go.Operand.tmp 39, Go.Operand.tmp 44], argTypes := #[23, 52] }, type := 9, pos := "h10_players.go:225", after := #[{ on := 10, ground := Go.Ground.data }, { on := 15, ground := Go.Ground.data }, { on := 9, ground := Go.Ground.chain }], guard := none } : Go.Oper) := rfl
theorem ops_4_7_17 : ops_4_7[17]? = some ({ dst := some 46, op := Go.Op.move (Go.Operand.tmp 0), type := 23, pos := "h10_players.go:225", after := #[], guard := none } : Go.Oper) := rfl
theorem ops_4_7_18 : ops_4_7[18]? = some ({ dst := some 47, op := Go.Op.buildSlice 52 2 #[(0, Go.Operand.const (Go.Value.string { data := #[] })), (1, Go.Operand.const (Go.Value.string { data := #[65] }))], type := 52, pos := "h10_players.go:225", after := #[], guard := none } : Go.Oper) := rfl
theorem ops_4_7_19 : ops_4_7[19]? = some ({ dst := some 48, op := Go.Op.call { callee := Go.Callee.value (Go.Operand.func 16), args := #[Go.Operand.tmp 46, Go.Operand.tmp 47], argTypes := #[23, 52] }, type := 9, pos := "h10_players.go:225", after := #[{ on := 17, ground := Go.Ground.data }, { on := 18, ground := Go.Ground.data }, { on := 16, ground := Go.Ground.chain }], guard := none } : Go.Oper) := rfl
theorem ops_4_7_20 : ops_4_7[20]? = some ({ dst := some 49, op := Go.Op.nilCheck (Go.Operand.tmp 29), type := 0, pos := "h10_players.go:225", after := #[{ on := 0, ground := Go.Ground.data }, { on := 0, ground := Go.Ground.phase }, { on := 1, ground := Go.Ground.textOnly Go.Departure.lateStores }, { on := 2, ground := Go.Ground.textOnly Go.Departure.lateStores }, { on := 3, ground := Go.Ground.phase }, { on := 4, ground := Go.Ground.phase }, { on := 5, ground := Go.Ground.phase }, { on := 6, ground := Go.Ground.phase }, { on := 7, ground := Go.Ground.phase }, { on := 8, ground := Go.Ground.phase }, { on := 9, ground := Go.Ground.phase }, { on := 10, ground := Go.Ground.textOnly Go.Departure.lateStores }, { on := 11, ground := Go.Ground.textOnly Go.Departure.lateStores }, { on := 12, ground := Go.Ground.textOnly Go.Departure.lateStoresUnsure }, { on := 13, ground := Go.Ground.textOnly Go.Departure.lateStoresUnsure }, { on := 14, ground := Go.Ground.phase }, { on := 15, ground := Go.Ground.textOnly Go.Departure.lateStoresUnsure }, { on := 16, ground := Go.Ground.phase }, { on := 17, ground := Go.Ground.textOnly Go.Departure.lateStores }, { on := 18, ground := Go.Ground.textOnly Go.Departure.lateStoresUnsure }, { on := 19, ground := Go.Ground.phase }], guard := none } : Go.Oper) := rfl
theorem ops_4_7_21 : ops_4_7[21]? = some ({ dst := some 50, op := Go.Op.fieldAddr 40 (Go.Operand.tmp 49) 0, type := 0, pos := "h10_players.go:225", after := #[{ on := 20, ground := Go.Ground.data }, { on := 0, ground := Go.Ground.phase }, { on := 1, ground := Go.Ground.textOnly Go.Departure.lateStores }, { on := 2, ground := Go.Ground.textOnly Go.Departure.lateStores }, { on := 3, ground := Go.Ground.phase }, { on := 4, ground := Go.Ground.phase }, { on := 5, ground := Go.Ground.phase }, { on := 6, ground := Go.Ground.phase }, { on := 7, ground := Go.Ground.phase }, { on := 8, ground := Go.Ground.phase }, { on := 9, ground := Go.Ground.phase }, { on := 10, ground := Go.Ground.textOnly Go.Departure.lateStores }, { on := 11, ground := Go.Ground.textOnly Go.Departure.lateStores }, { on := 12, ground := Go.Ground.textOnly Go.Departure.lateStoresUnsure }, { on := 13, ground := Go.Ground.textOnly Go.Departure.lateStoresUnsure }, { on := 14, ground := Go.Ground.phase }, { on := 15, ground := Go.Ground.textOnly Go.Departure.lateStoresUnsure }, { on := 16, ground := Go.Ground.phase }, { on := 17, ground := Go.Ground.textOnly Go.Departure.lateStores }, { on := 18, ground := Go.Ground.textOnly Go.Departure.lateStoresUnsure }, { on := 19, ground := Go.Ground.phase }], guard := none } : Go.Oper) := rfl
theorem ops_4_7_22 : ops_4_7[22]? = some ({ dst := none, op := Go.Op.store 9 (Go.Operand.tmp 50) (Go.Operand.tmp 38), type := 0, pos := "h10_players.go:225", after := #[{ on := 21, ground := Go.Ground.data }, { on := 9, ground := Go.Ground.data }, { on := 19, ground := Go.Ground.chain }, { on := 0, ground := Go.Ground.phase }, { on := 1, ground := Go.Ground.textOnly Go.Departure.lateStores }, { on := 2, ground := Go.Ground.textOnly Go.Departure.lateStores }, { on := 3, ground := Go.Ground.phase }, { on := 4, ground := Go.Ground.phase }, { on := 5, ground := Go.Ground.phase }, { on := 6, ground := Go.Ground.phase }, { on := 7, ground := Go.Ground.phase }, { on := 8, ground := Go.Ground.phase }, { on := 9, ground := Go.Ground.phase }, { on := 10, ground := Go.Ground.textOnly Go.Departure.lateStores }, { on := 11, ground := Go.Ground.textOnly Go.Departure.lateStores }, { on := 12, ground := Go.Ground.textOnly Go.Departure.lateStoresUnsure }, { on := 13, ground := Go.Ground.textOnly Go.Departure.lateStoresUnsure }, { on := 14, ground := Go.Ground.phase }, { on := 15, ground := Go.Ground.textOnly Go.Departure.lateStoresUnsure }, { on := 16, ground := Go.Ground.phase }, { on := 17, ground := Go.Ground.textOnly Go.Departure.lateStores }, { on := 18, ground := Go.Ground.textOnly Go.Departure.lateStoresUnsure }, { on := 19, ground := Go.Ground.phase }], guard := none } : Go.Oper) := rfl
theorem ops_4_7_23 : ops_4_7[23]? = some ({ dst := some 51, op := Go.Op.nilCheck (Go.Operand.tmp 30), type := 0, pos := "h10_players.go:225", after := #[{ on := 1, ground := Go.Ground.data }, { on := 0, ground := Go.Ground.phase }, { on := 1, ground := Go.Ground.phase }, { on := 2, ground := Go.Ground.textOnly Go.Departure.lateStores }, { on := 3, ground := Go.Ground.phase }, { on := 4, ground := Go.Ground.phase }, { on := 5, ground := Go.Ground.phase }, { on := 6, ground := Go.Ground.phase }, { on := 7, ground := Go.Ground.phase }, { on := 8, ground := Go.Ground.phase }, { on := 9, ground := Go.Ground.phase }, { on := 10, ground := Go.Ground.phase }, { on := 11, ground := Go.Ground.phase }, { on := 12, ground := Go.Ground.phase }, { on := 13, ground := Go.Ground.phase }, { on := 14, ground := Go.Ground.phase }, { on := 15, ground := Go.Ground.phase }, { on := 16, ground := Go.Ground.phase }, { on := 17, ground := Go.Ground.textOnly Go.Departure.lateStores }, { on := 18, ground := Go.Ground.textOnly Go.Departure.lateStoresUnsure }, { on := 19, ground := Go.Ground.phase }, { on := 20, ground := Go.Ground.phase }, { on := 21, ground := Go.Ground.phase }, { on := 22, ground := Go.Ground.phase }], guard := none } : Go.Oper) := rfl
theorem ops_4_7_24 : ops_4_7[24]? = some ({ dst := some 52, op := Go.Op.fieldAddr 40 (Go.Operand.tmp 51) 1, type := 0, pos := "h10_players.go:225", after := #[{ on := 23, ground := Go.Ground.data }, { on := 0, ground := Go.Ground.phase }, { on := 1, ground := Go.Ground.phase }, { on := 2, ground := Go.Ground.textOnly Go.Departure.lateStores }, { on := 3, ground := Go.Ground.phase }, { on := 4, ground := Go.Ground.phase }, { on := 5, ground := Go.Ground.phase }, { on := 6, ground := Go.Ground.phase }, { on := 7, ground := Go.Ground.phase }, { on := 8, ground := Go.Ground.phase }, { on := 9, ground := Go.Ground.phase }, { on := 10, ground := Go.Ground.phase }, { on := 11, ground := Go.Ground.phase }, { on := 12, ground := Go.Ground.phase }, { on := 13, ground := Go.Ground.phase }, { on := 14, ground := Go.Ground.phase }, { on := 15, ground := Go.Ground.phase }, { on := 16, ground := Go.Ground.phase }, { on := 17, ground := Go.Ground.textOnly Go.Departure.lateStores }, { on := 18, ground := Go.Ground.textOnly Go.Departure.lateStoresUnsure }, { on := 19, ground := Go.Ground.phase }, { on := 20, ground := Go.Ground.phase }, { on := 21, ground := Go.Ground.phase }, { on := 22, ground := Go.Ground.phase }], guard := none } : Go.Oper) := rfl
theorem ops_4_7_25 : ops_4_7[25]? = some ({ dst := none, op := Go.Op.store 9 (Go.Operand.tmp 52) (Go.Operand.tmp 45), type := 0, pos := "h10_players.go:225", after := #[{ on := 24, ground := Go.Ground.data }, { on := 16, ground := Go.Ground.data }, { on := 22, ground := Go.Ground.chain }, { on := 0, ground := Go.Ground.phase }, { on := 1, ground := Go.Ground.phase }, { on := 2, ground := Go.Ground.textOnly Go.Departure.lateStores }, { on := 3, ground := Go.Ground.phase }, { on := 4, ground := Go.Ground.phase }, { on := 5, ground := Go.Ground.phase }, { on := 6, ground := Go.Ground.phase }, { on := 7, ground := Go.Ground.phase }, { on := 8, ground := Go.Ground.phase }, { on := 9, ground := Go.Ground.phase }, { on := 10, ground := Go.Ground.phase }, { on := 11, ground := Go.Ground.phase }, { on := 12, ground := Go.Ground.phase }, { on := 13, ground := Go.Ground.phase }, { on := 14, ground := Go.Ground.phase }, { on := 15, ground := Go.Ground.phase }, { on := 16, ground := Go.Ground.phase }, { on := 17, ground := Go.Ground.textOnly Go.Departure.lateStores }, { on := 18, ground := Go.Ground.textOnly Go.Departure.lateStoresUnsure }, { on := 19, ground := Go.Ground.phase }, { on := 20, ground := Go.Ground.phase }, { on := 21, ground := Go.Ground.phase }, { on := 22, ground := Go.Ground.phase }], guard := none } : Go.Oper) := rfl
theorem ops_4_7_26 : ops_4_7[26]? = some ({ dst := some 53, op := Go.Op.nilCheck (Go.Operand.tmp 31), type := 0, pos := "h10_players.go:225", after := #[{ on := 2, ground := Go.Ground.data }, { on := 0, ground := Go.Ground.phase }, { on := 1, ground := Go.Ground.phase }, { on := 2, ground := Go.Ground.phase }, { on := 3, ground := Go.Ground.phase }, { on := 4, ground := Go.Ground.phase }, { on := 5, ground := Go.Ground.phase }, { on := 6, ground := Go.Ground.phase }, { on := 7, ground := Go.Ground.phase }, { on := 8, ground := Go.Ground.phase }, { on := 9, ground := Go.Ground.phase }, { on := 10, ground := Go.Ground.phase }, { on := 11, ground := Go.Ground.phase }, { on := 12, ground := Go.Ground.phase }, { on := 13, ground := Go.Ground.phase }, { on := 14, ground := Go.Ground.phase }, { on := 15, ground := Go.Ground.phase }, { on := 16, ground := Go.Ground.phase }, { on := 17, ground := Go.Ground.phase }, { on := 18, ground := Go.Ground.phase }, { on := 19, ground := Go.Ground.phase }, { on := 20, ground := Go.Ground.phase }, { on := 21, ground := Go.Ground.phase }, { on := 22, ground := Go.Ground.phase }, { on := 23, ground := Go.Ground.phase }, { on := 24, ground := Go.Ground.phase }, { on := 25, ground := Go.Ground.phase }], guard := none } : Go.Oper) := rfl
theorem ops_4_7_27 : ops_4_7[27]? = some ({ dst := some 54, op := Go.Op.fieldAddr 40 (Go.Operand.tmp 53) 2, type := 0, pos := "h10_players.go:225", after := #[{ on := 26, ground := Go.Ground.data }, { on := 0, ground := Go.Ground.phase }, { on := 1, ground := Go.Ground.phase }, { on := 2, ground := Go.Ground.phase }, { on := 3, ground := Go.Ground.phase }, { on := 4, ground := Go.Ground.phase }, { on := 5, ground := Go.Ground.phase }, { on := 6, ground := Go.Ground.phase }, { on := 7, ground := Go.Ground.phase }, { on := 8, ground := Go.Ground.phase }, { on := 9, ground := Go.Ground.phase }, { on := 10, ground := Go.Ground.phase }, { on := 11, ground := Go.Ground.phase }, { on := 12, ground := Go.Ground.phase }, { on := 13, ground := Go.Ground.phase }, { on := 14, ground := Go.Ground.phase }, { on := 15, ground := Go.Ground.phase }, { on := 16, ground := Go.Ground.phase }, { on := 17, ground := Go.Ground.phase }, { on := 18, ground := Go.Ground.phase }, { on := 19, ground := Go.Ground.phase }, { on := 20, ground := Go.Ground.phase }, { on := 21, ground := Go.Ground.phase }, { on := 22, ground := Go.Ground.phase }, { on := 23, ground := Go.Ground.phase }, { on := 24, ground := Go.Ground.phase }, { on := 25, ground := Go.Ground.phase }], guard := none } : Go.Oper) := rfl
theorem ops_4_7_28 : ops_4_7[28]? = some ({ dst := none, op := Go.Op.store 9 (Go.Operand.tmp 54) (Go.Operand.tmp 48), type := 0, pos := "h10_players.go:225", after := #[{ on := 27, ground := Go.Ground.data }, { on := 19, ground := Go.Ground.data }, { on := 25, ground := Go.Ground.chain }, { on := 0, ground := Go.Ground.phase }, { on := 1, ground := Go.Ground.phase }, { on := 2, ground := Go.Ground.phase }, { on := 3, ground := Go.Ground.phase }, { on := 4, ground := Go.Ground.phase }, { on := 5, ground := Go.Ground.phase }, { on := 6, ground := Go.Ground.phase }, { on := 7, ground := Go.Ground.phase }, { on := 8, ground := Go.Ground.phase }, { on := 9, ground := Go.Ground.phase }, { on := 10, ground := Go.Ground.phase }, { on := 11, ground := Go.Ground.phase }, { on := 12, ground := Go.Ground.phase }, { on := 13, ground := Go.Ground.phase }, { on := 14, ground := Go.Ground.phase }, { on := 15, ground := Go.Ground.phase }, { on := 16, ground := Go.Ground.phase }, { on := 17, ground := Go.Ground.phase }, { on := 18, ground := Go.Ground.phase }, { on := 19, ground := Go.Ground.phase }, { on := 20, ground := Go.Ground.phase }, { on := 21, ground := Go.Ground.phase }, { on := 22, ground := Go.Ground.phase }, { on := 23, ground := Go.Ground.phase }, { on := 24, ground := Go.Ground.phase }, { on := 25, ground := Go.Ground.phase }], guard := none } : Go.Oper) := rfl
theorem ops_4_7_ns : Go.Region.noSelect ops_4_7 = true := by kernel_rfl
set_option maxRecDepth 100000 in
set_option maxHeartbeats 16000000 in
theorem rules_calls (B N : Nat) (w : World) (hs : St w B N) (hN : N ≤ 3970000) :
    Calls Tryz.prog 4 #[.pointer (some ⟨B, 0, none⟩)] w (Made B (N + 60) (SomeRls w.heap.size) w) := by
  have hBw := hs.lt
  go_enter Tryz.func4, Tryz.ntmps4
  go_wp2_with fail
  refine (rightRules_calls B N w hs (by omega)).mono ?_
  rintro e w1 ⟨v, ⟨rs, hown, hrl, hrs⟩, rfl, hs1, hg1⟩
  have Hrs := Lib.hid hrs
  clear hrs
  rcases hown.2 with ⟨rfl, hnil⟩ | ⟨g, cap, cur, rfl, hgb, hgc, hle, _⟩
  · have : rs = [] := List.eq_nil_of_length_eq_zero hnil
    subst this
    clear hown hnil hrl
    go_wp2_with fail
    go_ret
    exact ⟨_, ⟨[], ⟨by simp, by simp, .inl ⟨rfl, rfl⟩⟩, by simp, Hrs.out⟩, rfl, hs1.mono (by omega), hg1⟩
  · obtain ⟨hat, _⟩ := RowsAt.of_owns (sz := 7) (rows := rs.map rlRow) (by simpa using hown) (rl_each rs)
    have hne : g ≠ B := by omega
    by_cases hz : rs.length = 0
    · have : rs = [] := List.eq_nil_of_length_eq_zero hz
      subst this
      clear hown hz hrl hat
      go_wp2_with fail
      go_ret
      exact ⟨_, ⟨[], ⟨by simp, by simp, .inr ⟨g, 0, cap, cur, (0, 0), rfl, ⟨hgb, by simp⟩, hgc, by simp⟩⟩, by simp, Hrs.out⟩, rfl, hs1.mono (by omega), hg1⟩
    · have hpos : 0 < rs.length := by omega
      have Hat := Lib.hid hat
      clear hown hz hat hgc
      obtain ⟨m, hm⟩ : ∃ m, m = rs.length := ⟨_, rfl⟩
      have Hm := Lib.hid hm
      rw [← hm] at hpos hrl hle ⊢
      clear hm
      go_wp2_with fail
      refine (flip_calls B _ 10 w1 hs1 (by omega) (by omega) (by omega)).mono ?_
      rintro e w2 ⟨v, ⟨b, rfl⟩, rfl, hs2, hg2⟩
      cases b
      · go_wp2_with fail
        go_ret
        refine ⟨_, ⟨rs, ?_, by rw [← Hm.out]; omega, Hrs.out⟩, rfl, hs2.mono (by omega), gb_trans hg1 hg2⟩
        have h := (Hat.out.lift (hg2.block g Hat.out.lt (by intro e; cases e; exact hne rfl))).rows (lo := w.heap.size) (cap := cap) (by simp; have := Hm.out; omega) hgb (by simp; have := Hm.out; omega)
        rw [List.length_map, ← Hm.out] at h
        exact h
      · go_wp2_with fail
        refine (next_calls B _ m w2 hs2 (by omega) (by omega) (by omega)).mono ?_
        rintro e w3 ⟨v, ⟨i, rfl, hi⟩, rfl, hs3, hg3⟩
        have hX : WS w B g m i _ w3 := ⟨rs, rs[i]'(by have := Hm.out; omega), Hm.out.symm, List.getElem?_eq_getElem _, Hrs.out, Hat.out.lift ((hg3.block g (by have := Hat.out.lt; have := hg2.size; omega) (by intro e; cases e; exact hne rfl)).trans (hg2.block g Hat.out.lt (by intro e; cases e; exact hne rfl))), hs3, gb_trans hg1 (gb_trans hg2 hg3)⟩
        have him : i < m := by omega
        clear hs1 hs2 hs3 hg1 hg2 hg3 Hat Hrs Hm
        go_wp2_with fail
        refine (next_calls B _ 3 w3 hX.st (by omega) (by omega) (by omega)).mono ?_
        rintro e w4 ⟨v, ⟨q, rfl, hq⟩, rfl, hs4, hg4⟩
        replace hX := hX.step hs4 hg4 hne
        clear hs4 hg4
        by_cases hq0 : q = 0
        · subst hq0
          go_upto_region 7 with fail
          obtain ⟨r, hr, c0, c1, -, -, -, -, -, cf⟩ := hX.cells
          have hC : w4.drew.cell? ⟨g, i * 7, none⟩ = some (.string r.key) ∧ w4.drew.cell? ⟨g, i * 7 + 1, none⟩ = some (.string r.stat) := ⟨c0, c1⟩
          have Hrk := Lib.hid hr.1
          have Hrt := Lib.hid hr.2.1
          replace hX := hX.drew
          clear c0 c1 cf hr hq
          show Code.wp _ (Code.region 7 ops_4_7 true) _ _ _
          refine regionC_start 29 (fun w' => w'.cell? ⟨g, i * 7, none⟩ = some (.string r.key) ∧ w'.cell? ⟨g, i * 7 + 1, none⟩ = some (.string r.stat)) (fun j => [7, 8, 9, 14, 15, 16, 18, 19].contains j) (by kernel_rfl) rfl ?_
          generalize w4.drew = W4 at hX hC ⊢
          apply share7 (C := fun (v8 v15 v18 : Value) (xk xs xp : ByteArray) (W : World) => xk.size ≤ 1000 ∧ xs.size ≤ 1000 ∧ xp.size ≤ 1000 ∧ WS w B g m i (N + 50) W)
          · intro tail
            refine takeC 0 29 (v := ?_) ops_4_7_0 rfl (by kernel_rfl) (by kernel_rfl) (by kernel_rfl) (by rfl) (fun _ _ _ h => h) (by rfl) ?y0_1 ?_
            case y0_1 =>
              intro w
              go_simp
              try with_reducible rfl
            simp only [List.set_cons_zero, List.set_cons_succ]
            refine takeC 1 30 (v := ?_) ops_4_7_1 rfl (by kernel_rfl) (by kernel_rfl) (by kernel_rfl) (by rfl) (fun _ _ _ h => h) (by rfl) ?y1_2 ?_
            case y1_2 =>
              intro w
              go_simp
              try with_reducible rfl
            simp only [List.set_cons_zero, List.set_cons_succ]
            refine takeC 2 31 (v := ?_) ops_4_7_2 rfl (by kernel_rfl) (by kernel_rfl) (by kernel_rfl) (by rfl) (fun _ _ _ h => h) (by rfl) ?y2_3 ?_
            case y2_3 =>
              intro w
              go_simp
              try with_reducible rfl
            simp only [List.set_cons_zero, List.set_cons_succ]
            refine takeC 3 32 (v := ?_) ops_4_7_3 rfl (by kernel_rfl) (by kernel_rfl) (by kernel_rfl) (by rfl) (fun _ _ _ h => h) (by rfl) ?y3_4 ?_
            case y3_4 =>
              intro w
              go_simp
              try with_reducible rfl
            simp only [List.set_cons_zero, List.set_cons_succ]
            refine takeC 4 33 (v := ?_) ops_4_7_4 rfl (by kernel_rfl) (by kernel_rfl) (by kernel_rfl) (by rfl) (fun _ _ _ h => h) (by rfl) ?y4_5 ?_
            case y4_5 =>
              intro w
              go_simp
              try with_reducible rfl
            simp only [List.set_cons_zero, List.set_cons_succ]
            refine takeC 5 34 (v := ?_) ops_4_7_5 rfl (by kernel_rfl) (by kernel_rfl) (by kernel_rfl) (by rfl) (fun _ _ _ h => h) (by rfl) ?y5_6 ?_
            case y5_6 =>
              intro w
              go_simp
              try with_reducible rfl
            simp only [List.set_cons_zero, List.set_cons_succ]
            refine takeC 6 35 (v := ?_) ops_4_7_6 rfl (by kernel_rfl) (by kernel_rfl) (by kernel_rfl) (by rfl) (fun _ _ _ h => h) (by rfl) ?y6_7 ?_
            case y6_7 =>
              intro w
              go_simp
              try with_reducible rfl
            simp only [List.set_cons_zero, List.set_cons_succ]
            refine takeC 10 39 (v := ?_) ops_4_7_10 rfl (by kernel_rfl) (by kernel_rfl) (by kernel_rfl) (by rfl) (fun _ _ _ h => h) (by rfl) ?y10_8 ?_
            case y10_8 =>
              intro w
              go_simp
              try with_reducible rfl
            simp only [List.set_cons_zero, List.set_cons_succ]
            refine takeC 11 40 (v := ?_) ops_4_7_11 rfl (by kernel_rfl) (by kernel_rfl) (by kernel_rfl) (by rfl) (fun _ _ _ h => h) (by rfl) ?y11_9 ?_
            case y11_9 =>
              intro w
              go_simp
              try with_reducible rfl
            simp only [List.set_cons_zero, List.set_cons_succ]
            refine takeC 12 41 (v := ?_) ops_4_7_12 rfl (by kernel_rfl) (by kernel_rfl) (by kernel_rfl) (by rfl) (fun _ _ _ h => h) (by rfl) ?y12_10 ?_
            case y12_10 =>
              intro w
              go_simp
              try with_reducible rfl
            simp only [List.set_cons_zero, List.set_cons_succ]
            refine takeC 13 42 (v := ?_) ops_4_7_13 rfl (by kernel_rfl) (by kernel_rfl) (by kernel_rfl) (by rfl) (fun _ _ _ h => h) (by rfl) ?y13_11 ?_
            case y13_11 =>
              intro w
              go_simp
              try with_reducible rfl
            simp only [List.set_cons_zero, List.set_cons_succ]
            refine takeC 17 46 (v := ?_) ops_4_7_17 rfl (by kernel_rfl) (by kernel_rfl) (by kernel_rfl) (by rfl) (fun _ _ _ h => h) (by rfl) ?y17_12 ?_
            case y17_12 =>
              intro w
              go_simp
              try with_reducible rfl
            simp only [List.set_cons_zero, List.set_cons_succ]
            refine loadC 7 36 (v := ?_) ops_4_7_7 rfl (by kernel_rfl) (by kernel_rfl) (by kernel_rfl) (by kernel_rfl) (fun _ _ _ h => h) (by rfl) ?y7_13 (by exact hC) ?_
            case y7_13 =>
              intro w hSw
              try dsimp only at hSw
              go_simp
              try with_reducible rfl
            simp only [List.set_cons_zero, List.set_cons_succ]
            refine loadC 14 43 (v := ?_) ops_4_7_14 rfl (by kernel_rfl) (by kernel_rfl) (by kernel_rfl) (by kernel_rfl) (fun _ _ _ h => h) (by rfl) ?y14_14 (by exact hC) ?_
            case y14_14 =>
              intro w hSw
              try dsimp only at hSw
              go_simp
              try with_reducible rfl
            simp only [List.set_cons_zero, List.set_cons_succ]
            refine readyC (rs := [8, 15, 18]) (by kernel_rfl) (by simp) (each_cons (runC ops_4_7_8 (by rfl) (fun K hK => ?_)) (each_cons (runC ops_4_7_15 (by rfl) (fun K hK => ?_)) (each_cons (runC ops_4_7_18 (by rfl) (fun K hK => ?_)) each_nil)))
            · go_simp
              obtain ⟨v8, e8, hA8, hB8⟩ := ws_vals hX [E_none, r.key, F_ra] (by simp)
              simp only [List.length_cons, List.length_nil, Nat.zero_add, Nat.reduceAdd] at e8
              try simp only [World.size_alloc] at e8
              rw [e8]
              clear e8
              try replace hA15 := hA15.below (below_alloc _ (.cells ([E_none, r.key, F_ra].map Value.string).toArray 9))
              try replace hA18 := hA18.below (below_alloc _ (.cells ([E_none, r.key, F_ra].map Value.string).toArray 9))
              replace hX := hX.alloc (.cells ([E_none, r.key, F_ra].map Value.string).toArray 9)
              replace hC := And.intro (below_cell (below_alloc _ (.cells ([E_none, r.key, F_ra].map Value.string).toArray 9)) hC.1) (below_cell (below_alloc _ (.cells ([E_none, r.key, F_ra].map Value.string).toArray 9)) hC.2)
              go_wp2_with fail
              refine hK.out _ _ (fun _ => ?_) ?_
              · (exact hC)
              clear hK K
              try simp only [Act.put, List.setIfInBounds_toArray, List.set_cons_zero, List.set_cons_succ]
              refine readyC (rs := [9, 15, 18]) (by kernel_rfl) (by simp) (each_cons (runC ops_4_7_9 (by rfl) (fun K hK => ?_)) (each_cons (runC ops_4_7_15 (by rfl) (fun K hK => ?_)) (each_cons (runC ops_4_7_18 (by rfl) (fun K hK => ?_)) each_nil)))
              · go_simp
                refine (some_calls B _ _ _ [E_none, r.key, F_ra] _ hX.st (by omega) hA8 hB8 (by simp)).mono ?_
                rintro e w' ⟨v, ⟨xk, rfl, hxk⟩, rfl, hs', hg'⟩
                have Hxk := Lib.hid (show xk.size ≤ 1000 from by simp only [List.mem_cons, List.not_mem_nil, or_false] at hxk; rcases hxk with rfl | rfl | rfl; (· exact by decide); (· exact Hrk.out); (· exact by decide))
                try replace hA15 := hA15.other hg' hB15
                try replace hA18 := hA18.other hg' hB18
                replace hC := gb_cells2 hg' hne hC
                replace hX := hX.step hs' hg' hne
                clear hs' hg' hxk hA8 hB8
                go_wp2_with fail
                refine hK.out _ _ (fun _ => ?_) ?_
                · (exact hC)
                clear hK K
                try simp only [Act.put, List.setIfInBounds_toArray, List.set_cons_zero, List.set_cons_succ]
                refine readyC (rs := [15, 18]) (by kernel_rfl) (by simp) (each_cons (runC ops_4_7_15 (by rfl) (fun K hK => ?_)) (each_cons (runC ops_4_7_18 (by rfl) (fun K hK => ?_)) each_nil))
                · go_simp
                  obtain ⟨v15, e15, hA15, hB15⟩ := ws_vals hX [r.stat, E_none] (by simp)
                  simp only [List.length_cons, List.length_nil, Nat.zero_add, Nat.reduceAdd] at e15
                  try simp only [World.size_alloc] at e15
                  rw [e15]
                  clear e15
                  try replace hA8 := hA8.below (below_alloc _ (.cells ([r.stat, E_none].map Value.string).toArray 9))
                  try replace hA18 := hA18.below (below_alloc _ (.cells ([r.stat, E_none].map Value.string).toArray 9))
                  replace hX := hX.alloc (.cells ([r.stat, E_none].map Value.string).toArray 9)
                  replace hC := And.intro (below_cell (below_alloc _ (.cells ([r.stat, E_none].map Value.string).toArray 9)) hC.1) (below_cell (below_alloc _ (.cells ([r.stat, E_none].map Value.string).toArray 9)) hC.2)
                  go_wp2_with fail
                  refine hK.out _ _ (fun _ => ?_) ?_
                  · (exact hC)
                  clear hK K
                  try simp only [Act.put, List.setIfInBounds_toArray, List.set_cons_zero, List.set_cons_succ]
                  refine readyC (rs := [16, 18]) (by kernel_rfl) (by simp) (each_cons (runC ops_4_7_16 (by rfl) (fun K hK => ?_)) (each_cons (runC ops_4_7_18 (by rfl) (fun K hK => ?_)) each_nil))
                  · go_simp
                    refine (some_calls B _ _ _ [r.stat, E_none] _ hX.st (by omega) hA15 hB15 (by simp)).mono ?_
                    rintro e w' ⟨v, ⟨xs, rfl, hxs⟩, rfl, hs', hg'⟩
                    have Hxs := Lib.hid (show xs.size ≤ 1000 from by simp only [List.mem_cons, List.not_mem_nil, or_false] at hxs; rcases hxs with rfl | rfl; (· exact Hrt.out); (· exact by decide))
                    try replace hA8 := hA8.other hg' hB8
                    try replace hA18 := hA18.other hg' hB18
                    replace hC := gb_cells2 hg' hne hC
                    replace hX := hX.step hs' hg' hne
                    clear hs' hg' hxs hA15 hB15
                    go_wp2_with fail
                    refine hK.out _ _ (fun _ => ?_) ?_
                    · (exact hC)
                    clear hK K
                    try simp only [Act.put, List.setIfInBounds_toArray, List.set_cons_zero, List.set_cons_succ]
                    refine readyC (rs := [18]) (by kernel_rfl) (by simp) (each_cons (runC ops_4_7_18 (by rfl) (fun K hK => ?_)) each_nil)
                    go_simp
                    obtain ⟨v18, e18, hA18, hB18⟩ := ws_vals hX [E_none, E_A] (by simp)
                    simp only [List.length_cons, List.length_nil, Nat.zero_add, Nat.reduceAdd] at e18
                    try simp only [World.size_alloc] at e18
                    rw [e18]
                    clear e18
                    try replace hA8 := hA8.below (below_alloc _ (.cells ([E_none, E_A].map Value.string).toArray 9))
                    try replace hA15 := hA15.below (below_alloc _ (.cells ([E_none, E_A].map Value.string).toArray 9))
                    replace hX := hX.alloc (.cells ([E_none, E_A].map Value.string).toArray 9)
                    replace hC := And.intro (below_cell (below_alloc _ (.cells ([E_none, E_A].map Value.string).toArray 9)) hC.1) (below_cell (below_alloc _ (.cells ([E_none, E_A].map Value.string).toArray 9)) hC.2)
                    go_wp2_with fail
                    refine hK.out _ _ (fun _ => ?_) ?_
                    · (exact hC)
                    clear hK K
                    try simp only [Act.put, List.setIfInBounds_toArray, List.set_cons_zero, List.set_cons_succ]
                    refine readyC (rs := [19]) (by kernel_rfl) (by simp) (each_cons (runC ops_4_7_19 (by rfl) (fun K hK => ?_)) each_nil)
                    go_simp
                    refine (some_calls B _ _ _ [E_none, E_A] _ hX.st (by omega) hA18 hB18 (by simp)).mono ?_
                    rintro e w' ⟨v, ⟨xp, rfl, hxp⟩, rfl, hs', hg'⟩
                    have Hxp := Lib.hid (show xp.size ≤ 1000 from by simp only [List.mem_cons, List.not_mem_nil, or_false] at hxp; rcases hxp with rfl | rfl; (· exact by decide); (· exact by decide))
                    try replace hA8 := hA8.other hg' hB8
                    try replace hA15 := hA15.other hg' hB15
                    replace hC := gb_cells2 hg' hne hC
                    replace hX := hX.step hs' hg' hne
                    clear hs' hg' hxp hA18 hB18
                    go_wp2_with fail
                    refine hK.out _ _ (fun _ => ?_) ?_
                    · (exact hC)
                    clear hK K
                    try simp only [Act.put, List.setIfInBounds_toArray, List.set_cons_zero, List.set_cons_succ]
                    refine sameC (l' := #[true, true, true, true, true, true, true, true, true, true, true, true, true, true, true, true, true, true, true, true, false, false, false, false, false, false, false, false, false]) (by kernel_rfl) ?_
                    exact tail v8 v15 v18 xk xs xp w' ⟨Hxk.out, Hxs.out, Hxp.out, hX.mono (by omega)⟩
                  · go_simp
                    obtain ⟨v18, e18, hA18, hB18⟩ := ws_vals hX [E_none, E_A] (by simp)
                    simp only [List.length_cons, List.length_nil, Nat.zero_add, Nat.reduceAdd] at e18
                    try simp only [World.size_alloc] at e18
                    rw [e18]
                    clear e18
                    try replace hA8 := hA8.below (below_alloc _ (.cells ([E_none, E_A].map Value.string).toArray 9))
                    try replace hA15 := hA15.below (below_alloc _ (.cells ([E_none, E_A].map Value.string).toArray 9))
                    replace hX := hX.alloc (.cells ([E_none, E_A].map Value.string).toArray 9)
                    replace hC := And.intro (below_cell (below_alloc _ (.cells ([E_none, E_A].map Value.string).toArray 9)) hC.1) (below_cell (below_alloc _ (.cells ([E_none, E_A].map Value.string).toArray 9)) hC.2)
                    go_wp2_with fail
                    refine hK.out _ _ (fun _ => ?_) ?_
                    · (exact hC)
                    clear hK K
                    try simp only [Act.put, List.setIfInBounds_toArray, List.set_cons_zero, List.set_cons_succ]
                    refine readyC (rs := [16]) (by kernel_rfl) (by simp) (each_cons (runC ops_4_7_16 (by rfl) (fun K hK => ?_)) each_nil)
                    go_simp
                    refine (some_calls B _ _ _ [r.stat, E_none] _ hX.st (by omega) hA15 hB15 (by simp)).mono ?_
                    rintro e w' ⟨v, ⟨xs, rfl, hxs⟩, rfl, hs', hg'⟩
                    have Hxs := Lib.hid (show xs.size ≤ 1000 from by simp only [List.mem_cons, List.not_mem_nil, or_false] at hxs; rcases hxs with rfl | rfl; (· exact Hrt.out); (· exact by decide))
                    try replace hA8 := hA8.other hg' hB8
                    try replace hA18 := hA18.other hg' hB18
                    replace hC := gb_cells2 hg' hne hC
                    replace hX := hX.step hs' hg' hne
                    clear hs' hg' hxs hA15 hB15
                    go_wp2_with fail
                    refine hK.out _ _ (fun _ => ?_) ?_
                    · (exact hC)
                    clear hK K
                    try simp only [Act.put, List.setIfInBounds_toArray, List.set_cons_zero, List.set_cons_succ]
                    refine readyC (rs := [19]) (by kernel_rfl) (by simp) (each_cons (runC ops_4_7_19 (by rfl) (fun K hK => ?_)) each_nil)
                    go_simp
                    refine (some_calls B _ _ _ [E_none, E_A] _ hX.st (by omega) hA18 hB18 (by simp)).mono ?_
                    rintro e w' ⟨v, ⟨xp, rfl, hxp⟩, rfl, hs', hg'⟩
                    have Hxp := Lib.hid (show xp.size ≤ 1000 from by simp only [List.mem_cons, List.not_mem_nil, or_false] at hxp; rcases hxp with rfl | rfl; (· exact by decide); (· exact by decide))
                    try replace hA8 := hA8.other hg' hB8
                    try replace hA15 := hA15.other hg' hB15
                    replace hC := gb_cells2 hg' hne hC
                    replace hX := hX.step hs' hg' hne
                    clear hs' hg' hxp hA18 hB18
                    go_wp2_with fail
                    refine hK.out _ _ (fun _ => ?_) ?_
                    · (exact hC)
                    clear hK K
                    try simp only [Act.put, List.setIfInBounds_toArray, List.set_cons_zero, List.set_cons_succ]
                    refine sameC (l' := #[true, true, true, true, true, true, true, true, true, true, true, true, true, true, true, true, true, true, true, true, false, false, false, false, false, false, false, false, false]) (by kernel_rfl) ?_
                    exact tail v8 v15 v18 xk xs xp w' ⟨Hxk.out, Hxs.out, Hxp.out, hX.mono (by omega)⟩
                · go_simp
                  obtain ⟨v18, e18, hA18, hB18⟩ := ws_vals hX [E_none, E_A] (by simp)
                  simp only [List.length_cons, List.length_nil, Nat.zero_add, Nat.reduceAdd] at e18
                  try simp only [World.size_alloc] at e18
                  rw [e18]
                  clear e18
                  try replace hA8 := hA8.below (below_alloc _ (.cells ([E_none, E_A].map Value.string).toArray 9))
                  try replace hA15 := hA15.below (below_alloc _ (.cells ([E_none, E_A].map Value.string).toArray 9))
                  replace hX := hX.alloc (.cells ([E_none, E_A].map Value.string).toArray 9)
                  replace hC := And.intro (below_cell (below_alloc _ (.cells ([E_none, E_A].map Value.string).toArray 9)) hC.1) (below_cell (below_alloc _ (.cells ([E_none, E_A].map Value.string).toArray 9)) hC.2)
                  go_wp2_with fail
                  refine hK.out _ _ (fun _ => ?_) ?_
                  · (exact hC)
                  clear hK K
                  try simp only [Act.put, List.setIfInBounds_toArray, List.set_cons_zero, List.set_cons_succ]
                  refine readyC (rs := [15]) (by kernel_rfl) (by simp) (each_cons (runC ops_4_7_15 (by rfl) (fun K hK => ?_)) each_nil)
                  go_simp
                  obtain ⟨v15, e15, hA15, hB15⟩ := ws_vals hX [r.stat, E_none] (by simp)
                  simp only [List.length_cons, List.length_nil, Nat.zero_add, Nat.reduceAdd] at e15
                  try simp only [World.size_alloc] at e15
                  rw [e15]
                  clear e15
                  try replace hA8 := hA8.below (below_alloc _ (.cells ([r.stat, E_none].map Value.string).toArray 9))
                  try replace hA18 := hA18.below (below_alloc _ (.cells ([r.stat, E_none].map Value.string).toArray 9))
                  replace hX := hX.alloc (.cells ([r.stat, E_none].map Value.string).toArray 9)
                  replace hC := And.intro (below_cell (below_alloc _ (.cells ([r.stat, E_none].map Value.string).toArray 9)) hC.1) (below_cell (below_alloc _ (.cells ([r.stat, E_none].map Value.string).toArray 9)) hC.2)
                  go_wp2_with fail
                  refine hK.out _ _ (fun _ => ?_) ?_
                  · (exact hC)
                  clear hK K
                  try simp only [Act.put, List.setIfInBounds_toArray, List.set_cons_zero, List.set_cons_succ]
                  refine readyC (rs := [16]) (by kernel_rfl) (by simp) (each_cons (runC ops_4_7_16 (by rfl) (fun K hK => ?_)) each_nil)
                  go_simp
                  refine (some_calls B _ _ _ [r.stat, E_none] _ hX.st (by omega) hA15 hB15 (by simp)).mono ?_
                  rintro e w' ⟨v, ⟨xs, rfl, hxs⟩, rfl, hs', hg'⟩
                  have Hxs := Lib.hid (show xs.size ≤ 1000 from by simp only [List.mem_cons, List.not_mem_nil, or_false] at hxs; rcases hxs with rfl | rfl; (· exact Hrt.out); (· exact by decide))
                  try replace hA8 := hA8.other hg' hB8
                  try replace hA18 := hA18.other hg' hB18
                  replace hC := gb_cells2 hg' hne hC
                  replace hX := hX.step hs' hg' hne
                  clear hs' hg' hxs hA15 hB15
                  go_wp2_with fail
                  refine hK.out _ _ (fun _ => ?_) ?_
                  · (exact hC)
                  clear hK K
                  try simp only [Act.put, List.setIfInBounds_toArray, List.set_cons_zero, List.set_cons_succ]
                  refine readyC (rs := [19]) (by kernel_rfl) (by simp) (each_cons (runC ops_4_7_19 (by rfl) (fun K hK => ?_)) each_nil)
                  go_simp
                  refine (some_calls B _ _ _ [E_none, E_A] _ hX.st (by omega) hA18 hB18 (by simp)).mono ?_
                  rintro e w' ⟨v, ⟨xp, rfl, hxp⟩, rfl, hs', hg'⟩
                  have Hxp := Lib.hid (show xp.size ≤ 1000 from by simp only [List.mem_cons, List.not_mem_nil, or_false] at hxp; rcases hxp with rfl | rfl; (· exact by decide); (· exact by decide))
                  try replace hA8 := hA8.other hg' hB8
                  try replace hA15 := hA15.other hg' hB15
                  replace hC := gb_cells2 hg' hne hC
                  replace hX := hX.step hs' hg' hne
                  clear hs' hg' hxp hA18 hB18
                  go_wp2_with fail
                  refine hK.out _ _ (fun _ => ?_) ?_
                  · (exact hC)
                  clear hK K
                  try simp only [Act.put, List.setIfInBounds_toArray, List.set_cons_zero, List.set_cons_succ]
                  refine sameC (l' := #[true, true, true, true, true, true, true, true, true, true, true, true, true, true, true, true, true, true, true, true, false, false, false, false, false, false, false, false, false]) (by kernel_rfl) ?_
                  exact tail v8 v15 v18 xk xs xp w' ⟨Hxk.out, Hxs.out, Hxp.out, hX.mono (by omega)⟩
              · go_simp
                obtain ⟨v15, e15, hA15, hB15⟩ := ws_vals hX [r.stat, E_none] (by simp)
                simp only [List.length_cons, List.length_nil, Nat.zero_add, Nat.reduceAdd] at e15
                try simp only [World.size_alloc] at e15
                rw [e15]
                clear e15
                try replace hA8 := hA8.below (below_alloc _ (.cells ([r.stat, E_none].map Value.string).toArray 9))
                try replace hA18 := hA18.below (below_alloc _ (.cells ([r.stat, E_none].map Value.string).toArray 9))
                replace hX := hX.alloc (.cells ([r.stat, E_none].map Value.string).toArray 9)
                replace hC := And.intro (below_cell (below_alloc _ (.cells ([r.stat, E_none].map Value.string).toArray 9)) hC.1) (below_cell (below_alloc _ (.cells ([r.stat, E_none].map Value.string).toArray 9)) hC.2)
                go_wp2_with fail
                refine hK.out _ _ (fun _ => ?_) ?_
                · (exact hC)
                clear hK K
                try simp only [Act.put, List.setIfInBounds_toArray, List.set_cons_zero, List.set_cons_succ]
                refine readyC (rs := [9, 18]) (by kernel_rfl) (by simp) (each_cons (runC ops_4_7_9 (by rfl) (fun K hK => ?_)) (each_cons (runC ops_4_7_18 (by rfl) (fun K hK => ?_)) each_nil))
                · go_simp
                  refine (some_calls B _ _ _ [E_none, r.key, F_ra] _ hX.st (by omega) hA8 hB8 (by simp)).mono ?_
                  rintro e w' ⟨v, ⟨xk, rfl, hxk⟩, rfl, hs', hg'⟩
                  have Hxk := Lib.hid (show xk.size ≤ 1000 from by simp only [List.mem_cons, List.not_mem_nil, or_false] at hxk; rcases hxk with rfl | rfl | rfl; (· exact by decide); (· exact Hrk.out); (· exact by decide))
                  try replace hA15 := hA15.other hg' hB15
                  try replace hA18 := hA18.other hg' hB18
                  replace hC := gb_cells2 hg' hne hC
                  replace hX := hX.step hs' hg' hne
                  clear hs' hg' hxk hA8 hB8
                  go_wp2_with fail
                  refine hK.out _ _ (fun _ => ?_) ?_
                  · (exact hC)
                  clear hK K
                  try simp only [Act.put, List.setIfInBounds_toArray, List.set_cons_zero, List.set_cons_succ]
                  refine readyC (rs := [16, 18]) (by kernel_rfl) (by simp) (each_cons (runC ops_4_7_16 (by rfl) (fun K hK => ?_)) (each_cons (runC ops_4_7_18 (by rfl) (fun K hK => ?_)) each_nil))
                  · go_simp
                    refine (some_calls B _ _ _ [r.stat, E_none] _ hX.st (by omega) hA15 hB15 (by simp)).mono ?_
                    rintro e w' ⟨v, ⟨xs, rfl, hxs⟩, rfl, hs', hg'⟩
                    have Hxs := Lib.hid (show xs.size ≤ 1000 from by simp only [List.mem_cons, List.not_mem_nil, or_false] at hxs; rcases hxs with rfl | rfl; (· exact Hrt.out); (· exact by decide))
                    try replace hA8 := hA8.other hg' hB8
                    try replace hA18 := hA18.other hg' hB18
                    replace hC := gb_cells2 hg' hne hC
                    replace hX := hX.step hs' hg' hne
                    clear hs' hg' hxs hA15 hB15
                    go_wp2_with fail
                    refine hK.out _ _ (fun _ => ?_) ?_
                    · (exact hC)
                    clear hK K
                    try simp only [Act.put, List.setIfInBounds_toArray, List.set_cons_zero, List.set_cons_succ]
                    refine readyC (rs := [18]) (by kernel_rfl) (by simp) (each_cons (runC ops_4_7_18 (by rfl) (fun K hK => ?_)) each_nil)
                    go_simp
                    obtain ⟨v18, e18, hA18, hB18⟩ := ws_vals hX [E_none, E_A] (by simp)
                    simp only [List.length_cons, List.length_nil, Nat.zero_add, Nat.reduceAdd] at e18
                    try simp only [World.size_alloc] at e18
                    rw [e18]
                    clear e18
                    try replace hA8 := hA8.below (below_alloc _ (.cells ([E_none, E_A].map Value.string).toArray 9))
                    try replace hA15 := hA15.below (below_alloc _ (.cells ([E_none, E_A].map Value.string).toArray 9))
                    replace hX := hX.alloc (.cells ([E_none, E_A].map Value.string).toArray 9)
                    replace hC := And.intro (below_cell (below_alloc _ (.cells ([E_none, E_A].map Value.string).toArray 9)) hC.1) (below_cell (below_alloc _ (.cells ([E_none, E_A].map Value.string).toArray 9)) hC.2)
                    go_wp2_with fail
                    refine hK.out _ _ (fun _ => ?_) ?_
                    · (exact hC)
                    clear hK K
                    try simp only [Act.put, List.setIfInBounds_toArray, List.set_cons_zero, List.set_cons_succ]
                    refine readyC (rs := [19]) (by kernel_rfl) (by simp) (each_cons (runC ops_4_7_19 (by rfl) (fun K hK => ?_)) each_nil)
                    go_simp
                    refine (some_calls B _ _ _ [E_none, E_A] _ hX.st (by omega) hA18 hB18 (by simp)).mono ?_
                    rintro e w' ⟨v, ⟨xp, rfl, hxp⟩, rfl, hs', hg'⟩
                    have Hxp := Lib.hid (show xp.size ≤ 1000 from by simp only [List.mem_cons, List.not_mem_nil, or_false] at hxp; rcases hxp with rfl | rfl; (· exact by decide); (· exact by decide))
                    try replace hA8 := hA8.other hg' hB8
                    try replace hA15 := hA15.other hg' hB15
                    replace hC := gb_cells2 hg' hne hC
                    replace hX := hX.step hs' hg' hne
                    clear hs' hg' hxp hA18 hB18
                    go_wp2_with fail
                    refine hK.out _ _ (fun _ => ?_) ?_
                    · (exact hC)
                    clear hK K
                    try simp only [Act.put, List.setIfInBounds_toArray, List.set_cons_zero, List.set_cons_succ]
                    refine sameC (l' := #[true, true, true, true, true, true, true, true, true, true, true, true, true, true, true, true, true, true, true, true, false, false, false, false, false, false, false, false, false]) (by kernel_rfl) ?_
                    exact tail v8 v15 v18 xk xs xp w' ⟨Hxk.out, Hxs.out, Hxp.out, hX.mono (by omega)⟩
                  · go_simp
                    obtain ⟨v18, e18, hA18, hB18⟩ := ws_vals hX [E_none, E_A] (by simp)
                    simp only [List.length_cons, List.length_nil, Nat.zero_add, Nat.reduceAdd] at e18
                    try simp only [World.size_alloc] at e18
                    rw [e18]
                    clear e18
                    try replace hA8 := hA8.below (below_alloc _ (.cells ([E_none, E_A].map Value.string).toArray 9))
                    try replace hA15 := hA15.below (below_alloc _ (.cells ([E_none, E_A].map Value.string).toArray 9))
                    replace hX := hX.alloc (.cells ([E_none, E_A].map Value.string).toArray 9)
                    replace hC := And.intro (below_cell (below_alloc _ (.cells ([E_none, E_A].map Value.string).toArray 9)) hC.1) (below_cell (below_alloc _ (.cells ([E_none, E_A].map Value.string).toArray 9)) hC.2)
                    go_wp2_with fail
                    refine hK.out _ _ (fun _ => ?_) ?_
                    · (exact hC)
                    clear hK K
                    try simp only [Act.put, List.setIfInBounds_toArray, List.set_cons_zero, List.set_cons_succ]
                    refine readyC (rs := [16]) (by kernel_rfl) (by simp) (each_cons (runC ops_4_7_16 (by rfl) (fun K hK => ?_)) each_nil)
                    go_simp
                    refine (some_calls B _ _ _ [r.stat, E_none] _ hX.st (by omega) hA15 hB15 (by simp)).mono ?_
                    rintro e w' ⟨v, ⟨xs, rfl, hxs⟩, rfl, hs', hg'⟩
                    have Hxs := Lib.hid (show xs.size ≤ 1000 from by simp only [List.mem_cons, List.not_mem_nil, or_false] at hxs; rcases hxs with rfl | rfl; (· exact Hrt.out); (· exact by decide))
                    try replace hA8 := hA8.other hg' hB8
                    try replace hA18 := hA18.other hg' hB18
                    replace hC := gb_cells2 hg' hne hC
                    replace hX := hX.step hs' hg' hne
                    clear hs' hg' hxs hA15 hB15
                    go_wp2_with fail
                    refine hK.out _ _ (fun _ => ?_) ?_
                    · (exact hC)
                    clear hK K
                    try simp only [Act.put, List.setIfInBounds_toArray, List.set_cons_zero, List.set_cons_succ]
                    refine readyC (rs := [19]) (by kernel_rfl) (by simp) (each_cons (runC ops_4_7_19 (by rfl) (fun K hK => ?_)) each_nil)
                    go_simp
                    refine (some_calls B _ _ _ [E_none, E_A] _ hX.st (by omega) hA18 hB18 (by simp)).mono ?_
                    rintro e w' ⟨v, ⟨xp, rfl, hxp⟩, rfl, hs', hg'⟩
                    have Hxp := Lib.hid (show xp.size ≤ 1000 from by simp only [List.mem_cons, List.not_mem_nil, or_false] at hxp; rcases hxp with rfl | rfl; (· exact by decide); (· exact by decide))
                    try replace hA8 := hA8.other hg' hB8
                    try replace hA15 := hA15.other hg' hB15
                    replace hC := gb_cells2 hg' hne hC
                    replace hX := hX.step hs' hg' hne
                    clear hs' hg' hxp hA18 hB18
                    go_wp2_with fail
                    refine hK.out _ _ (fun _ => ?_) ?_
                    · (exact hC)
                    clear hK K
                    try simp only [Act.put, List.setIfInBounds_toArray, List.set_cons_zero, List.set_cons_succ]
                    refine sameC (l' := #[true, true, true, true, true, true, true, true, true, true, true, true, true, true, true, true, true, true, true, true, false, false, false, false, false, false, false, false, false]) (by kernel_rfl) ?_
                    exact tail v8 v15 v18 xk xs xp w' ⟨Hxk.out, Hxs.out, Hxp.out, hX.mono (by omega)⟩
                · go_simp
                  obtain ⟨v18, e18, hA18, hB18⟩ := ws_vals hX [E_none, E_A] (by simp)
                  simp only [List.length_cons, List.length_nil, Nat.zero_add, Nat.reduceAdd] at e18
                  try simp only [World.size_alloc] at e18
                  rw [e18]
                  clear e18
                  try replace hA8 := hA8.below (below_alloc _ (.cells ([E_none, E_A].map Value.string).toArray 9))
                  try replace hA15 := hA15.below (below_alloc _ (.cells ([E_none, E_A].map Value.string).toArray 9))
                  replace hX := hX.alloc (.cells ([E_none, E_A].map Value.string).toArray 9)
                  replace hC := And.intro (below_cell (below_alloc _ (.cells ([E_none, E_A].map Value.string).toArray 9)) hC.1) (below_cell (below_alloc _ (.cells ([E_none, E_A].map Value.string).toArray 9)) hC.2)
                  go_wp2_with fail
                  refine hK.out _ _ (fun _ => ?_) ?_
                  · (exact hC)
                  clear hK K
                  try simp only [Act.put, List.setIfInBounds_toArray, List.set_cons_zero, List.set_cons_succ]
                  refine readyC (rs := [9]) (by kernel_rfl) (by simp) (each_cons (runC ops_4_7_9 (by rfl) (fun K hK => ?_)) each_nil)
                  go_simp
                  refine (some_calls B _ _ _ [E_none, r.key, F_ra] _ hX.st (by omega) hA8 hB8 (by simp)).mono ?_
                  rintro e w' ⟨v, ⟨xk, rfl, hxk⟩, rfl, hs', hg'⟩
                  have Hxk := Lib.hid (show xk.size ≤ 1000 from by simp only [List.mem_cons, List.not_mem_nil, or_false] at hxk; rcases hxk with rfl | rfl | rfl; (· exact by decide); (· exact Hrk.out); (· exact by decide))
                  try replace hA15 := hA15.other hg' hB15
                  try replace hA18 := hA18.other hg' hB18
                  replace hC := gb_cells2 hg' hne hC
                  replace hX := hX.step hs' hg' hne
                  clear hs' hg' hxk hA8 hB8
                  go_wp2_with fail
                  refine hK.out _ _ (fun _ => ?_) ?_
                  · (exact hC)
                  clear hK K
                  try simp only [Act.put, List.setIfInBounds_toArray, List.set_cons_zero, List.set_cons_succ]
                  refine readyC (rs := [16]) (by kernel_rfl) (by simp) (each_cons (runC ops_4_7_16 (by rfl) (fun K hK => ?_)) each_nil)
                  go_simp
                  refine (some_calls B _ _ _ [r.stat, E_none] _ hX.st (by omega) hA15 hB15 (by simp)).mono ?_
                  rintro e w' ⟨v, ⟨xs, rfl, hxs⟩, rfl, hs', hg'⟩
                  have Hxs := Lib.hid (show xs.size ≤ 1000 from by simp only [List.mem_cons, List.not_mem_nil, or_false] at hxs; rcases hxs with rfl | rfl; (· exact Hrt.out); (· exact by decide))
                  try replace hA8 := hA8.other hg' hB8
                  try replace hA18 := hA18.other hg' hB18
                  replace hC := gb_cells2 hg' hne hC
                  replace hX := hX.step hs' hg' hne
                  clear hs' hg' hxs hA15 hB15
                  go_wp2_with fail
                  refine hK.out _ _ (fun _ => ?_) ?_
                  · (exact hC)
                  clear hK K
                  try simp only [Act.put, List.setIfInBounds_toArray, List.set_cons_zero, List.set_cons_succ]
                  refine readyC (rs := [19]) (by kernel_rfl) (by simp) (each_cons (runC ops_4_7_19 (by rfl) (fun K hK => ?_)) each_nil)
                  go_simp
                  refine (some_calls B _ _ _ [E_none, E_A] _ hX.st (by omega) hA18 hB18 (by simp)).mono ?_
                  rintro e w' ⟨v, ⟨xp, rfl, hxp⟩, rfl, hs', hg'⟩
                  have Hxp := Lib.hid (show xp.size ≤ 1000 from by simp only [List.mem_cons, List.not_mem_nil, or_false] at hxp; rcases hxp with rfl | rfl; (· exact by decide); (· exact by decide))
                  try replace hA8 := hA8.other hg' hB8
                  try replace hA15 := hA15.other hg' hB15
                  replace hC := gb_cells2 hg' hne hC
                  replace hX := hX.step hs' hg' hne
                  clear hs' hg' hxp hA18 hB18
                  go_wp2_with fail
                  refine hK.out _ _ (fun _ => ?_) ?_
                  · (exact hC)
                  clear hK K
                  try simp only [Act.put, List.setIfInBounds_toArray, List.set_cons_zero, List.set_cons_succ]
                  refine sameC (l' := #[true, true, true, true, true, true, true, true, true, true, true, true, true, true, true, true, true, true, true, true, false, false, false, false, false, false, false, false, false]) (by kernel_rfl) ?_
                  exact tail v8 v15 v18 xk xs xp w' ⟨Hxk.out, Hxs.out, Hxp.out, hX.mono (by omega)⟩
              · go_simp
                obtain ⟨v18, e18, hA18, hB18⟩ := ws_vals hX [E_none, E_A] (by simp)
                simp only [List.length_cons, List.length_nil, Nat.zero_add, Nat.reduceAdd] at e18
                try simp only [World.size_alloc] at e18
                rw [e18]
                clear e18
                try replace hA8 := hA8.below (below_alloc _ (.cells ([E_none, E_A].map Value.string).toArray 9))
                try replace hA15 := hA15.below (below_alloc _ (.cells ([E_none, E_A].map Value.string).toArray 9))
                replace hX := hX.alloc (.cells ([E_none, E_A].map Value.string).toArray 9)
                replace hC := And.intro (below_cell (below_alloc _ (.cells ([E_none, E_A].map Value.string).toArray 9)) hC.1) (below_cell (below_alloc _ (.cells ([E_none, E_A].map Value.string).toArray 9)) hC.2)
                go_wp2_with fail
                refine hK.out _ _ (fun _ => ?_) ?_
                · (exact hC)
                clear hK K
                try simp only [Act.put, List.setIfInBounds_toArray, List.set_cons_zero, List.set_cons_succ]
                refine readyC (rs := [9, 15]) (by kernel_rfl) (by simp) (each_cons (runC ops_4_7_9 (by rfl) (fun K hK => ?_)) (each_cons (runC ops_4_7_15 (by rfl) (fun K hK => ?_)) each_nil))
                · go_simp
                  refine (some_calls B _ _ _ [E_none, r.key, F_ra] _ hX.st (by omega) hA8 hB8 (by simp)).mono ?_
                  rintro e w' ⟨v, ⟨xk, rfl, hxk⟩, rfl, hs', hg'⟩
                  have Hxk := Lib.hid (show xk.size ≤ 1000 from by simp only [List.mem_cons, List.not_mem_nil, or_false] at hxk; rcases hxk with rfl | rfl | rfl; (· exact by decide); (· exact Hrk.out); (· exact by decide))
                  try replace hA15 := hA15.other hg' hB15
                  try replace hA18 := hA18.other hg' hB18
                  replace hC := gb_cells2 hg' hne hC
                  replace hX := hX.step hs' hg' hne
                  clear hs' hg' hxk hA8 hB8
                  go_wp2_with fail
                  refine hK.out _ _ (fun _ => ?_) ?_
                  · (exact hC)
                  clear hK K
                  try simp only [Act.put, List.setIfInBounds_toArray, List.set_cons_zero, List.set_cons_succ]
                  refine readyC (rs := [15]) (by kernel_rfl) (by simp) (each_cons (runC ops_4_7_15 (by rfl) (fun K hK => ?_)) each_nil)
                  go_simp
                  obtain ⟨v15, e15, hA15, hB15⟩ := ws_vals hX [r.stat, E_none] (by simp)
                  simp only [List.length_cons, List.length_nil, Nat.zero_add, Nat.reduceAdd] at e15
                  try simp only [World.size_alloc] at e15
                  rw [e15]
                  clear e15
                  try replace hA8 := hA8.below (below_alloc _ (.cells ([r.stat, E_none].map Value.string).toArray 9))
                  try replace hA18 := hA18.below (below_alloc _ (.cells ([r.stat, E_none].map Value.string).toArray 9))
                  replace hX := hX.alloc (.cells ([r.stat, E_none].map Value.string).toArray 9)
                  replace hC := And.intro (below_cell (below_alloc _ (.cells ([r.stat, E_none].map Value.string).toArray 9)) hC.1) (below_cell (below_alloc _ (.cells ([r.stat, E_none].map Value.string).toArray 9)) hC.2)
                  go_wp2_with fail
                  refine hK.out _ _ (fun _ => ?_) ?_
                  · (exact hC)
                  clear hK K
                  try simp only [Act.put, List.setIfInBounds_toArray, List.set_cons_zero, List.set_cons_succ]
                  refine readyC (rs := [16]) (by kernel_rfl) (by simp) (each_cons (runC ops_4_7_16 (by rfl) (fun K hK => ?_)) each_nil)
                  go_simp
                  refine (some_calls B _ _ _ [r.stat, E_none] _ hX.st (by omega) hA15 hB15 (by simp)).mono ?_
                  rintro e w' ⟨v, ⟨xs, rfl, hxs⟩, rfl, hs', hg'⟩
                  have Hxs := Lib.hid (show xs.size ≤ 1000 from by simp only [List.mem_cons, List.not_mem_nil, or_false] at hxs; rcases hxs with rfl | rfl; (· exact Hrt.out); (· exact by decide))
                  try replace hA8 := hA8.other hg' hB8
                  try replace hA18 := hA18.other hg' hB18
                  replace hC := gb_cells2 hg' hne hC
                  replace hX := hX.step hs' hg' hne
                  clear hs' hg' hxs hA15 hB15
                  go_wp2_with fail
                  refine hK.out _ _ (fun _ => ?_) ?_
                  · (exact hC)
                  clear hK K
                  try simp only [Act.put, List.setIfInBounds_toArray, List.set_cons_zero, List.set_cons_succ]
                  refine readyC (rs := [19]) (by kernel_rfl) (by simp) (each_cons (runC ops_4_7_19 (by rfl) (fun K hK => ?_)) each_nil)
                  go_simp
                  refine (some_calls B _ _ _ [E_none, E_A] _ hX.st (by omega) hA18 hB18 (by simp)).mono ?_
                  rintro e w' ⟨v, ⟨xp, rfl, hxp⟩, rfl, hs', hg'⟩
                  have Hxp := Lib.hid (show xp.size ≤ 1000 from by simp only [List.mem_cons, List.not_mem_nil, or_false] at hxp; rcases hxp with rfl | rfl; (· exact by decide); (· exact by decide))
                  try replace hA8 := hA8.other hg' hB8
                  try replace hA15 := hA15.other hg' hB15
                  replace hC := gb_cells2 hg' hne hC
                  replace hX := hX.step hs' hg' hne
                  clear hs' hg' hxp hA18 hB18
                  go_wp2_with fail
                  refine hK.out _ _ (fun _ => ?_) ?_
                  · (exact hC)
                  clear hK K
                  try simp only [Act.put, List.setIfInBounds_toArray, List.set_cons_zero, List.set_cons_succ]
                  refine sameC (l' := #[true, true, true, true, true, true, true, true, true, true, true, true, true, true, true, true, true, true, true, true, false, false, false, false, false, false, false, false, false]) (by kernel_rfl) ?_
                  exact tail v8 v15 v18 xk xs xp w' ⟨Hxk.out, Hxs.out, Hxp.out, hX.mono (by omega)⟩
                · go_simp
                  obtain ⟨v15, e15, hA15, hB15⟩ := ws_vals hX [r.stat, E_none] (by simp)
                  simp only [List.length_cons, List.length_nil, Nat.zero_add, Nat.reduceAdd] at e15
                  try simp only [World.size_alloc] at e15
                  rw [e15]
                  clear e15
                  try replace hA8 := hA8.below (below_alloc _ (.cells ([r.stat, E_none].map Value.string).toArray 9))
                  try replace hA18 := hA18.below (below_alloc _ (.cells ([r.stat, E_none].map Value.string).toArray 9))
                  replace hX := hX.alloc (.cells ([r.stat, E_none].map Value.string).toArray 9)
                  replace hC := And.intro (below_cell (below_alloc _ (.cells ([r.stat, E_none].map Value.string).toArray 9)) hC.1) (below_cell (below_alloc _ (.cells ([r.stat, E_none].map Value.string).toArray 9)) hC.2)
                  go_wp2_with fail
                  refine hK.out _ _ (fun _ => ?_) ?_
                  · (exact hC)
                  clear hK K
                  try simp only [Act.put, List.setIfInBounds_toArray, List.set_cons_zero, List.set_cons_succ]
                  refine readyC (rs := [9]) (by kernel_rfl) (by simp) (each_cons (runC ops_4_7_9 (by rfl) (fun K hK => ?_)) each_nil)
                  go_simp
                  refine (some_calls B _ _ _ [E_none, r.key, F_ra] _ hX.st (by omega) hA8 hB8 (by simp)).mono ?_
                  rintro e w' ⟨v, ⟨xk, rfl, hxk⟩, rfl, hs', hg'⟩
                  have Hxk := Lib.hid (show xk.size ≤ 1000 from by simp only [List.mem_cons, List.not_mem_nil, or_false] at hxk; rcases hxk with rfl | rfl | rfl; (· exact by decide); (· exact Hrk.out); (· exact by decide))
                  try replace hA15 := hA15.other hg' hB15
                  try replace hA18 := hA18.other hg' hB18
                  replace hC := gb_cells2 hg' hne hC
                  replace hX := hX.step hs' hg' hne
                  clear hs' hg' hxk hA8 hB8
                  go_wp2_with fail
                  refine hK.out _ _ (fun _ => ?_) ?_
                  · (exact hC)
                  clear hK K
                  try simp only [Act.put, List.setIfInBounds_toArray, List.set_cons_zero, List.set_cons_succ]
                  refine readyC (rs := [16]) (by kernel_rfl) (by simp) (each_cons (runC ops_4_7_16 (by rfl) (fun K hK => ?_)) each_nil)
                  go_simp
                  refine (some_calls B _ _ _ [r.stat, E_none] _ hX.st (by omega) hA15 hB15 (by simp)).mono ?_
                  rintro e w' ⟨v, ⟨xs, rfl, hxs⟩, rfl, hs', hg'⟩
                  have Hxs := Lib.hid (show xs.size ≤ 1000 from by simp only [List.mem_cons, List.not_mem_nil, or_false] at hxs; rcases hxs with rfl | rfl; (· exact Hrt.out); (· exact by decide))
                  try replace hA8 := hA8.other hg' hB8
                  try replace hA18 := hA18.other hg' hB18
                  replace hC := gb_cells2 hg' hne hC
                  replace hX := hX.step hs' hg' hne
                  clear hs' hg' hxs hA15 hB15
                  go_wp2_with fail
                  refine hK.out _ _ (fun _ => ?_) ?_
                  · (exact hC)
                  clear hK K
                  try simp only [Act.put, List.setIfInBounds_toArray, List.set_cons_zero, List.set_cons_succ]
                  refine readyC (rs := [19]) (by kernel_rfl) (by simp) (each_cons (runC ops_4_7_19 (by rfl) (fun K hK => ?_)) each_nil)
                  go_simp
                  refine (some_calls B _ _ _ [E_none, E_A] _ hX.st (by omega) hA18 hB18 (by simp)).mono ?_
                  rintro e w' ⟨v, ⟨xp, rfl, hxp⟩, rfl, hs', hg'⟩
                  have Hxp := Lib.hid (show xp.size ≤ 1000 from by simp only [List.mem_cons, List.not_mem_nil, or_false] at hxp; rcases hxp with rfl | rfl; (· exact by decide); (· exact by decide))
                  try replace hA8 := hA8.other hg' hB8
                  try replace hA15 := hA15.other hg' hB15
                  replace hC := gb_cells2 hg' hne hC
                  replace hX := hX.step hs' hg' hne
                  clear hs' hg' hxp hA18 hB18
                  go_wp2_with fail
                  refine hK.out _ _ (fun _ => ?_) ?_
                  · (exact hC)
                  clear hK K
                  try simp only [Act.put, List.setIfInBounds_toArray, List.set_cons_zero, List.set_cons_succ]
                  refine sameC (l' := #[true, true, true, true, true, true, true, true, true, true, true, true, true, true, true, true, true, true, true, true, false, false, false, false, false, false, false, false, false]) (by kernel_rfl) ?_
                  exact tail v8 v15 v18 xk xs xp w' ⟨Hxk.out, Hxs.out, Hxp.out, hX.mono (by omega)⟩
            · go_simp
              obtain ⟨v15, e15, hA15, hB15⟩ := ws_vals hX [r.stat, E_none] (by simp)
              simp only [List.length_cons, List.length_nil, Nat.zero_add, Nat.reduceAdd] at e15
              try simp only [World.size_alloc] at e15
              rw [e15]
              clear e15
              try replace hA8 := hA8.below (below_alloc _ (.cells ([r.stat, E_none].map Value.string).toArray 9))
              try replace hA18 := hA18.below (below_alloc _ (.cells ([r.stat, E_none].map Value.string).toArray 9))
              replace hX := hX.alloc (.cells ([r.stat, E_none].map Value.string).toArray 9)
              replace hC := And.intro (below_cell (below_alloc _ (.cells ([r.stat, E_none].map Value.string).toArray 9)) hC.1) (below_cell (below_alloc _ (.cells ([r.stat, E_none].map Value.string).toArray 9)) hC.2)
              go_wp2_with fail
              refine hK.out _ _ (fun _ => ?_) ?_
              · (exact hC)
              clear hK K
              try simp only [Act.put, List.setIfInBounds_toArray, List.set_cons_zero, List.set_cons_succ]
              refine readyC (rs := [8, 18]) (by kernel_rfl) (by simp) (each_cons (runC ops_4_7_8 (by rfl) (fun K hK => ?_)) (each_cons (runC ops_4_7_18 (by rfl) (fun K hK => ?_)) each_nil))
              · go_simp
                obtain ⟨v8, e8, hA8, hB8⟩ := ws_vals hX [E_none, r.key, F_ra] (by simp)
                simp only [List.length_cons, List.length_nil, Nat.zero_add, Nat.reduceAdd] at e8
                try simp only [World.size_alloc] at e8
                rw [e8]
                clear e8
                try replace hA15 := hA15.below (below_alloc _ (.cells ([E_none, r.key, F_ra].map Value.string).toArray 9))
                try replace hA18 := hA18.below (below_alloc _ (.cells ([E_none, r.key, F_ra].map Value.string).toArray 9))
                replace hX := hX.alloc (.cells ([E_none, r.key, F_ra].map Value.string).toArray 9)
                replace hC := And.intro (below_cell (below_alloc _ (.cells ([E_none, r.key, F_ra].map Value.string).toArray 9)) hC.1) (below_cell (below_alloc _ (.cells ([E_none, r.key, F_ra].map Value.string).toArray 9)) hC.2)
                go_wp2_with fail
                refine hK.out _ _ (fun _ => ?_) ?_
                · (exact hC)
                clear hK K
                try simp only [Act.put, List.setIfInBounds_toArray, List.set_cons_zero, List.set_cons_succ]
                refine readyC (rs := [9, 18]) (by kernel_rfl) (by simp) (each_cons (runC ops_4_7_9 (by rfl) (fun K hK => ?_)) (each_cons (runC ops_4_7_18 (by rfl) (fun K hK => ?_)) each_nil))
                · go_simp
                  refine (some_calls B _ _ _ [E_none, r.key, F_ra] _ hX.st (by omega) hA8 hB8 (by simp)).mono ?_
                  rintro e w' ⟨v, ⟨xk, rfl, hxk⟩, rfl, hs', hg'⟩
                  have Hxk := Lib.hid (show xk.size ≤ 1000 from by simp only [List.mem_cons, List.not_mem_nil, or_false] at hxk; rcases hxk with rfl | rfl | rfl; (· exact by decide); (· exact Hrk.out); (· exact by decide))
                  try replace hA15 := hA15.other hg' hB15
                  try replace hA18 := hA18.other hg' hB18
                  replace hC := gb_cells2 hg' hne hC
                  replace hX := hX.step hs' hg' hne
                  clear hs' hg' hxk hA8 hB8
                  go_wp2_with fail
                  refine hK.out _ _ (fun _ => ?_) ?_
                  · (exact hC)
                  clear hK K
                  try simp only [Act.put, List.setIfInBounds_toArray, List.set_cons_zero, List.set_cons_succ]
                  refine readyC (rs := [16, 18]) (by kernel_rfl) (by simp) (each_cons (runC ops_4_7_16 (by rfl) (fun K hK => ?_)) (each_cons (runC ops_4_7_18 (by rfl) (fun K hK => ?_)) each_nil))
                  · go_simp
                    refine (some_calls B _ _ _ [r.stat, E_none] _ hX.st (by omega) hA15 hB15 (by simp)).mono ?_
                    rintro e w' ⟨v, ⟨xs, rfl, hxs⟩, rfl, hs', hg'⟩
                    have Hxs := Lib.hid (show xs.size ≤ 1000 from by simp only [List.mem_cons, List.not_mem_nil, or_false] at hxs; rcases hxs with rfl | rfl; (· exact Hrt.out); (· exact by decide))
                    try replace hA8 := hA8.other hg' hB8
                    try replace hA18 := hA18.other hg' hB18
                    replace hC := gb_cells2 hg' hne hC
                    replace hX := hX.step hs' hg' hne
                    clear hs' hg' hxs hA15 hB15
                    go_wp2_with fail
                    refine hK.out _ _ (fun _ => ?_) ?_
                    · (exact hC)
                    clear hK K
                    try simp only [Act.put, List.setIfInBounds_toArray, List.set_cons_zero, List.set_cons_succ]
                    refine readyC (rs := [18]) (by kernel_rfl) (by simp) (each_cons (runC ops_4_7_18 (by rfl) (fun K hK => ?_)) each_nil)
                    go_simp
                    obtain ⟨v18, e18, hA18, hB18⟩ := ws_vals hX [E_none, E_A] (by simp)
                    simp only [List.length_cons, List.length_nil, Nat.zero_add, Nat.reduceAdd] at e18
                    try simp only [World.size_alloc] at e18
                    rw [e18]
                    clear e18
                    try replace hA8 := hA8.below (below_alloc _ (.cells ([E_none, E_A].map Value.string).toArray 9))
                    try replace hA15 := hA15.below (below_alloc _ (.cells ([E_none, E_A].map Value.string).toArray 9))
                    replace hX := hX.alloc (.cells ([E_none, E_A].map Value.string).toArray 9)
                    replace hC := And.intro (below_cell (below_alloc _ (.cells ([E_none, E_A].map Value.string).toArray 9)) hC.1) (below_cell (below_alloc _ (.cells ([E_none, E_A].map Value.string).toArray 9)) hC.2)
                    go_wp2_with fail
                    refine hK.out _ _ (fun _ => ?_) ?_
                    · (exact hC)
                    clear hK K
                    try simp only [Act.put, List.setIfInBounds_toArray, List.set_cons_zero, List.set_cons_succ]
                    refine readyC (rs := [19]) (by kernel_rfl) (by simp) (each_cons (runC ops_4_7_19 (by rfl) (fun K hK => ?_)) each_nil)
                    go_simp
                    refine (some_calls B _ _ _ [E_none, E_A] _ hX.st (by omega) hA18 hB18 (by simp)).mono ?_
                    rintro e w' ⟨v, ⟨xp, rfl, hxp⟩, rfl, hs', hg'⟩
                    have Hxp := Lib.hid (show xp.size ≤ 1000 from by simp only [List.mem_cons, List.not_mem_nil, or_false] at hxp; rcases hxp with rfl | rfl; (· exact by decide); (· exact by decide))
                    try replace hA8 := hA8.other hg' hB8
                    try replace hA15 := hA15.other hg' hB15
                    replace hC := gb_cells2 hg' hne hC
                    replace hX := hX.step hs' hg' hne
                    clear hs' hg' hxp hA18 hB18
                    go_wp2_with fail
                    refine hK.out _ _ (fun _ => ?_) ?_
                    · (exact hC)
                    clear hK K
                    try simp only [Act.put, List.setIfInBounds_toArray, List.set_cons_zero, List.set_cons_succ]
                    refine sameC (l' := #[true, true, true, true, true, true, true, true, true, true, true, true, true, true, true, true, true, true, true, true, false, false, false, false, false, false, false, false, false]) (by kernel_rfl) ?_
                    exact tail v8 v15 v18 xk xs xp w' ⟨Hxk.out, Hxs.out, Hxp.out, hX.mono (by omega)⟩
                  · go_simp
                    obtain ⟨v18, e18, hA18, hB18⟩ := ws_vals hX [E_none, E_A] (by simp)
                    simp only [List.length_cons, List.length_nil, Nat.zero_add, Nat.reduceAdd] at e18
                    try simp only [World.size_alloc] at e18
                    rw [e18]
                    clear e18
                    try replace hA8 := hA8.below (below_alloc _ (.cells ([E_none, E_A].map Value.string).toArray 9))
                    try replace hA15 := hA15.below (below_alloc _ (.cells ([E_none, E_A].map Value.string).toArray 9))
                    replace hX := hX.alloc (.cells ([E_none, E_A].map Value.string).toArray 9)
                    replace hC := And.intro (below_cell (below_alloc _ (.cells ([E_none, E_A].map Value.string).toArray 9)) hC.1) (below_cell (below_alloc _ (.cells ([E_none, E_A].map Value.string).toArray 9)) hC.2)
                    go_wp2_with fail
                    refine hK.out _ _ (fun _ => ?_) ?_
                    · (exact hC)
                    clear hK K
                    try simp only [Act.put, List.setIfInBounds_toArray, List.set_cons_zero, List.set_cons_succ]
                    refine readyC (rs := [16]) (by kernel_rfl) (by simp) (each_cons (runC ops_4_7_16 (by rfl) (fun K hK => ?_)) each_nil)
                    go_simp
                    refine (some_calls B _ _ _ [r.stat, E_none] _ hX.st (by omega) hA15 hB15 (by simp)).mono ?_
                    rintro e w' ⟨v, ⟨xs, rfl, hxs⟩, rfl, hs', hg'⟩
                    have Hxs := Lib.hid (show xs.size ≤ 1000 from by simp only [List.mem_cons, List.not_mem_nil, or_false] at hxs; rcases hxs with rfl | rfl; (· exact Hrt.out); (· exact by decide))
                    try replace hA8 := hA8.other hg' hB8
                    try replace hA18 := hA18.other hg' hB18
                    replace hC := gb_cells2 hg' hne hC
                    replace hX := hX.step hs' hg' hne
                    clear hs' hg' hxs hA15 hB15
                    go_wp2_with fail
                    refine hK.out _ _ (fun _ => ?_) ?_
                    · (exact hC)
                    clear hK K
                    try simp only [Act.put, List.setIfInBounds_toArray, List.set_cons_zero, List.set_cons_succ]
                    refine readyC (rs := [19]) (by kernel_rfl) (by simp) (each_cons (runC ops_4_7_19 (by rfl) (fun K hK => ?_)) each_nil)
                    go_simp
                    refine (some_calls B _ _ _ [E_none, E_A] _ hX.st (by omega) hA18 hB18 (by simp)).mono ?_
                    rintro e w' ⟨v, ⟨xp, rfl, hxp⟩, rfl, hs', hg'⟩
                    have Hxp := Lib.hid (show xp.size ≤ 1000 from by simp only [List.mem_cons, List.not_mem_nil, or_false] at hxp; rcases hxp with rfl | rfl; (· exact by decide); (· exact by decide))
                    try replace hA8 := hA8.other hg' hB8
                    try replace hA15 := hA15.other hg' hB15
                    replace hC := gb_cells2 hg' hne hC
                    replace hX := hX.step hs' hg' hne
                    clear hs' hg' hxp hA18 hB18
                    go_wp2_with fail
                    refine hK.out _ _ (fun _ => ?_) ?_
                    · (exact hC)
                    clear hK K
                    try simp only [Act.put, List.setIfInBounds_toArray, List.set_cons_zero, List.set_cons_succ]
                    refine sameC (l' := #[true, true, true, true, true, true, true, true, true, true, true, true, true, true, true, true, true, true, true, true, false, false, false, false, false, false, false, false, false]) (by kernel_rfl) ?_
                    exact tail v8 v15 v18 xk xs xp w' ⟨Hxk.out, Hxs.out, Hxp.out, hX.mono (by omega)⟩
                · go_simp
                  obtain ⟨v18, e18, hA18, hB18⟩ := ws_vals hX [E_none, E_A] (by simp)
                  simp only [List.length_cons, List.length_nil, Nat.zero_add, Nat.reduceAdd] at e18
                  try simp only [World.size_alloc] at e18
                  rw [e18]
                  clear e18
                  try replace hA8 := hA8.below (below_alloc _ (.cells ([E_none, E_A].map Value.string).toArray 9))
                  try replace hA15 := hA15.below (below_alloc _ (.cells ([E_none, E_A].map Value.string).toArray 9))
                  replace hX := hX.alloc (.cells ([E_none, E_A].map Value.string).toArray 9)
                  replace hC := And.intro (below_cell (below_alloc _ (.cells ([E_none, E_A].map Value.string).toArray 9)) hC.1) (below_cell (below_alloc _ (.cells ([E_none, E_A].map Value.string).toArray 9)) hC.2)
                  go_wp2_with fail
                  refine hK.out _ _ (fun _ => ?_) ?_
                  · (exact hC)
                  clear hK K
                  try simp only [Act.put, List.setIfInBounds_toArray, List.set_cons_zero, List.set_cons_succ]
                  refine readyC (rs := [9]) (by kernel_rfl) (by simp) (each_cons (runC ops_4_7_9 (by rfl) (fun K hK => ?_)) each_nil)
                  go_simp
                  refine (some_calls B _ _ _ [E_none, r.key, F_ra] _ hX.st (by omega) hA8 hB8 (by simp)).mono ?_
                  rintro e w' ⟨v, ⟨xk, rfl, hxk⟩, rfl, hs', hg'⟩
                  have Hxk := Lib.hid (show xk.size ≤ 1000 from by simp only [List.mem_cons, List.not_mem_nil, or_false] at hxk; rcases hxk with rfl | rfl | rfl; (· exact by decide); (· exact Hrk.out); (· exact by decide))
                  try replace hA15 := hA15.other hg' hB15
                  try replace hA18 := hA18.other hg' hB18
                  replace hC := gb_cells2 hg' hne hC
                  replace hX := hX.step hs' hg' hne
                  clear hs' hg' hxk hA8 hB8
                  go_wp2_with fail
                  refine hK.out _ _ (fun _ => ?_) ?_
                  · (exact hC)
                  clear hK K
                  try simp only [Act.put, List.setIfInBounds_toArray, List.set_cons_zero, List.set_cons_succ]
                  refine readyC (rs := [16]) (by kernel_rfl) (by simp) (each_cons (runC ops_4_7_16 (by rfl) (fun K hK => ?_)) each_nil)
                  go_simp
                  refine (some_calls B _ _ _ [r.stat, E_none] _ hX.st (by omega) hA15 hB15 (by simp)).mono ?_
                  rintro e w' ⟨v, ⟨xs, rfl, hxs⟩, rfl, hs', hg'⟩
                  have Hxs := Lib.hid (show xs.size ≤ 1000 from by simp only [List.mem_cons, List.not_mem_nil, or_false] at hxs; rcases hxs with rfl | rfl; (· exact Hrt.out); (· exact by decide))
                  try replace hA8 := hA8.other hg' hB8
                  try replace hA18 := hA18.other hg' hB18
                  replace hC := gb_cells2 hg' hne hC
                  replace hX := hX.step hs' hg' hne
                  clear hs' hg' hxs hA15 hB15
                  go_wp2_with fail
                  refine hK.out _ _ (fun _ => ?_) ?_
                  · (exact hC)
                  clear hK K
                  try simp only [Act.put, List.setIfInBounds_toArray, List.set_cons_zero, List.set_cons_succ]
                  refine readyC (rs := [19]) (by kernel_rfl) (by simp) (each_cons (runC ops_4_7_19 (by rfl) (fun K hK => ?_)) each_nil)
                  go_simp
                  refine (some_calls B _ _ _ [E_none, E_A] _ hX.st (by omega) hA18 hB18 (by simp)).mono ?_
                  rintro e w' ⟨v, ⟨xp, rfl, hxp⟩, rfl, hs', hg'⟩
                  have Hxp := Lib.hid (show xp.size ≤ 1000 from by simp only [List.mem_cons, List.not_mem_nil, or_false] at hxp; rcases hxp with rfl | rfl; (· exact by decide); (· exact by decide))
                  try replace hA8 := hA8.other hg' hB8
                  try replace hA15 := hA15.other hg' hB15
                  replace hC := gb_cells2 hg' hne hC
                  replace hX := hX.step hs' hg' hne
                  clear hs' hg' hxp hA18 hB18
                  go_wp2_with fail
                  refine hK.out _ _ (fun _ => ?_) ?_
                  · (exact hC)
                  clear hK K
                  try simp only [Act.put, List.setIfInBounds_toArray, List.set_cons_zero, List.set_cons_succ]
                  refine sameC (l' := #[true, true, true, true, true, true, true, true, true, true, true, true, true, true, true, true, true, true, true, true, false, false, false, false, false, false, false, false, false]) (by kernel_rfl) ?_
                  exact tail v8 v15 v18 xk xs xp w' ⟨Hxk.out, Hxs.out, Hxp.out, hX.mono (by omega)⟩
              · go_simp
                obtain ⟨v18, e18, hA18, hB18⟩ := ws_vals hX [E_none, E_A] (by simp)
                simp only [List.length_cons, List.length_nil, Nat.zero_add, Nat.reduceAdd] at e18
                try simp only [World.size_alloc] at e18
                rw [e18]
                clear e18
                try replace hA8 := hA8.below (below_alloc _ (.cells ([E_none, E_A].map Value.string).toArray 9))
                try replace hA15 := hA15.below (below_alloc _ (.cells ([E_none, E_A].map Value.string).toArray 9))
                replace hX := hX.alloc (.cells ([E_none, E_A].map Value.string).toArray 9)
                replace hC := And.intro (below_cell (below_alloc _ (.cells ([E_none, E_A].map Value.string).toArray 9)) hC.1) (below_cell (below_alloc _ (.cells ([E_none, E_A].map Value.string).toArray 9)) hC.2)
                go_wp2_with fail
                refine hK.out _ _ (fun _ => ?_) ?_
                · (exact hC)
                clear hK K
                try simp only [Act.put, List.setIfInBounds_toArray, List.set_cons_zero, List.set_cons_succ]
                refine readyC (rs := [8]) (by kernel_rfl) (by simp) (each_cons (runC ops_4_7_8 (by rfl) (fun K hK => ?_)) each_nil)
                go_simp
                obtain ⟨v8, e8, hA8, hB8⟩ := ws_vals hX [E_none, r.key, F_ra] (by simp)
                simp only [List.length_cons, List.length_nil, Nat.zero_add, Nat.reduceAdd] at e8
                try simp only [World.size_alloc] at e8
                rw [e8]
                clear e8
                try replace hA15 := hA15.below (below_alloc _ (.cells ([E_none, r.key, F_ra].map Value.string).toArray 9))
                try replace hA18 := hA18.below (below_alloc _ (.cells ([E_none, r.key, F_ra].map Value.string).toArray 9))
                replace hX := hX.alloc (.cells ([E_none, r.key, F_ra].map Value.string).toArray 9)
                replace hC := And.intro (below_cell (below_alloc _ (.cells ([E_none, r.key, F_ra].map Value.string).toArray 9)) hC.1) (below_cell (below_alloc _ (.cells ([E_none, r.key, F_ra].map Value.string).toArray 9)) hC.2)
                go_wp2_with fail
                refine hK.out _ _ (fun _ => ?_) ?_
                · (exact hC)
                clear hK K
                try simp only [Act.put, List.setIfInBounds_toArray, List.set_cons_zero, List.set_cons_succ]
                refine readyC (rs := [9]) (by kernel_rfl) (by simp) (each_cons (runC ops_4_7_9 (by rfl) (fun K hK => ?_)) each_nil)
                go_simp
                refine (some_calls B _ _ _ [E_none, r.key, F_ra] _ hX.st (by omega) hA8 hB8 (by simp)).mono ?_
                rintro e w' ⟨v, ⟨xk, rfl, hxk⟩, rfl, hs', hg'⟩
                have Hxk := Lib.hid (show xk.size ≤ 1000 from by simp only [List.mem_cons, List.not_mem_nil, or_false] at hxk; rcases hxk with rfl | rfl | rfl; (· exact by decide); (· exact Hrk.out); (· exact by decide))
                try replace hA15 := hA15.other hg' hB15
                try replace hA18 := hA18.other hg' hB18
                replace hC := gb_cells2 hg' hne hC
                replace hX := hX.step hs' hg' hne
                clear hs' hg' hxk hA8 hB8
                go_wp2_with fail
                refine hK.out _ _ (fun _ => ?_) ?_
                · (exact hC)
                clear hK K
                try simp only [Act.put, List.setIfInBounds_toArray, List.set_cons_zero, List.set_cons_succ]
                refine readyC (rs := [16]) (by kernel_rfl) (by simp) (each_cons (runC ops_4_7_16 (by rfl) (fun K hK => ?_)) each_nil)
                go_simp
                refine (some_calls B _ _ _ [r.stat, E_none] _ hX.st (by omega) hA15 hB15 (by simp)).mono ?_
                rintro e w' ⟨v, ⟨xs, rfl, hxs⟩, rfl, hs', hg'⟩
                have Hxs := Lib.hid (show xs.size ≤ 1000 from by simp only [List.mem_cons, List.not_mem_nil, or_false] at hxs; rcases hxs with rfl | rfl; (· exact Hrt.out); (· exact by decide))
                try replace hA8 := hA8.other hg' hB8
                try replace hA18 := hA18.other hg' hB18
                replace hC := gb_cells2 hg' hne hC
                replace hX := hX.step hs' hg' hne
                clear hs' hg' hxs hA15 hB15
                go_wp2_with fail
                refine hK.out _ _ (fun _ => ?_) ?_
                · (exact hC)
                clear hK K
                try simp only [Act.put, List.setIfInBounds_toArray, List.set_cons_zero, List.set_cons_succ]
                refine readyC (rs := [19]) (by kernel_rfl) (by simp) (each_cons (runC ops_4_7_19 (by rfl) (fun K hK => ?_)) each_nil)
                go_simp
                refine (some_calls B _ _ _ [E_none, E_A] _ hX.st (by omega) hA18 hB18 (by simp)).mono ?_
                rintro e w' ⟨v, ⟨xp, rfl, hxp⟩, rfl, hs', hg'⟩
                have Hxp := Lib.hid (show xp.size ≤ 1000 from by simp only [List.mem_cons, List.not_mem_nil, or_false] at hxp; rcases hxp with rfl | rfl; (· exact by decide); (· exact by decide))
                try replace hA8 := hA8.other hg' hB8
                try replace hA15 := hA15.other hg' hB15
                replace hC := gb_cells2 hg' hne hC
                replace hX := hX.step hs' hg' hne
                clear hs' hg' hxp hA18 hB18
                go_wp2_with fail
                refine hK.out _ _ (fun _ => ?_) ?_
                · (exact hC)
                clear hK K
                try simp only [Act.put, List.setIfInBounds_toArray, List.set_cons_zero, List.set_cons_succ]
                refine sameC (l' := #[true, true, true, true, true, true, true, true, true, true, true, true, true, true, true, true, true, true, true, true, false, false, false, false, false, false, false, false, false]) (by kernel_rfl) ?_
                exact tail v8 v15 v18 xk xs xp w' ⟨Hxk.out, Hxs.out, Hxp.out, hX.mono (by omega)⟩
            · go_simp
              obtain ⟨v18, e18, hA18, hB18⟩ := ws_vals hX [E_none, E_A] (by simp)
              simp only [List.length_cons, List.length_nil, Nat.zero_add, Nat.reduceAdd] at e18
              try simp only [World.size_alloc] at e18
              rw [e18]
              clear e18
              try replace hA8 := hA8.below (below_alloc _ (.cells ([E_none, E_A].map Value.string).toArray 9))
              try replace hA15 := hA15.below (below_alloc _ (.cells ([E_none, E_A].map Value.string).toArray 9))
              replace hX := hX.alloc (.cells ([E_none, E_A].map Value.string).toArray 9)
              replace hC := And.intro (below_cell (below_alloc _ (.cells ([E_none, E_A].map Value.string).toArray 9)) hC.1) (below_cell (below_alloc _ (.cells ([E_none, E_A].map Value.string).toArray 9)) hC.2)
              go_wp2_with fail
              refine hK.out _ _ (fun _ => ?_) ?_
              · (exact hC)
              clear hK K
              try simp only [Act.put, List.setIfInBounds_toArray, List.set_cons_zero, List.set_cons_succ]
              refine readyC (rs := [8, 15]) (by kernel_rfl) (by simp) (each_cons (runC ops_4_7_8 (by rfl) (fun K hK => ?_)) (each_cons (runC ops_4_7_15 (by rfl) (fun K hK => ?_)) each_nil))
              · go_simp
                obtain ⟨v8, e8, hA8, hB8⟩ := ws_vals hX [E_none, r.key, F_ra] (by simp)
                simp only [List.length_cons, List.length_nil, Nat.zero_add, Nat.reduceAdd] at e8
                try simp only [World.size_alloc] at e8
                rw [e8]
                clear e8
                try replace hA15 := hA15.below (below_alloc _ (.cells ([E_none, r.key, F_ra].map Value.string).toArray 9))
                try replace hA18 := hA18.below (below_alloc _ (.cells ([E_none, r.key, F_ra].map Value.string).toArray 9))
                replace hX := hX.alloc (.cells ([E_none, r.key, F_ra].map Value.string).toArray 9)
                replace hC := And.intro (below_cell (below_alloc _ (.cells ([E_none, r.key, F_ra].map Value.string).toArray 9)) hC.1) (below_cell (below_alloc _ (.cells ([E_none, r.key, F_ra].map Value.string).toArray 9)) hC.2)
                go_wp2_with fail
                refine hK.out _ _ (fun _ => ?_) ?_
                · (exact hC)
                clear hK K
                try simp only [Act.put, List.setIfInBounds_toArray, List.set_cons_zero, List.set_cons_succ]
                refine readyC (rs := [9, 15]) (by kernel_rfl) (by simp) (each_cons (runC ops_4_7_9 (by rfl) (fun K hK => ?_)) (each_cons (runC ops_4_7_15 (by rfl) (fun K hK => ?_)) each_nil))
                · go_simp
                  refine (some_calls B _ _ _ [E_none, r.key, F_ra] _ hX.st (by omega) hA8 hB8 (by simp)).mono ?_
                  rintro e w' ⟨v, ⟨xk, rfl, hxk⟩, rfl, hs', hg'⟩
                  have Hxk := Lib.hid (show xk.size ≤ 1000 from by simp only [List.mem_cons, List.not_mem_nil, or_false] at hxk; rcases hxk with rfl | rfl | rfl; (· exact by decide); (· exact Hrk.out); (· exact by decide))
                  try replace hA15 := hA15.other hg' hB15
                  try replace hA18 := hA18.other hg' hB18
                  replace hC := gb_cells2 hg' hne hC
                  replace hX := hX.step hs' hg' hne
                  clear hs' hg' hxk hA8 hB8
                  go_wp2_with fail
                  refine hK.out _ _ (fun _ => ?_) ?_
                  · (exact hC)
                  clear hK K
                  try simp only [Act.put, List.setIfInBounds_toArray, List.set_cons_zero, List.set_cons_succ]
                  refine readyC (rs := [15]) (by kernel_rfl) (by simp) (each_cons (runC ops_4_7_15 (by rfl) (fun K hK => ?_)) each_nil)
                  go_simp
                  obtain ⟨v15, e15, hA15, hB15⟩ := ws_vals hX [r.stat, E_none] (by simp)
                  simp only [List.length_cons, List.length_nil, Nat.zero_add, Nat.reduceAdd] at e15
                  try simp only [World.size_alloc] at e15
                  rw [e15]
                  clear e15
                  try replace hA8 := hA8.below (below_alloc _ (.cells ([r.stat, E_none].map Value.string).toArray 9))
                  try replace hA18 := hA18.below (below_alloc _ (.cells ([r.stat, E_none].map Value.string).toArray 9))
                  replace hX := hX.alloc (.cells ([r.stat, E_none].map Value.string).toArray 9)
                  replace hC := And.intro (below_cell (below_alloc _ (.cells ([r.stat, E_none].map Value.string).toArray 9)) hC.1) (below_cell (below_alloc _ (.cells ([r.stat, E_none].map Value.string).toArray 9)) hC.2)
                  go_wp2_with fail
                  refine hK.out _ _ (fun _ => ?_) ?_
                  · (exact hC)
                  clear hK K
                  try simp only [Act.put, List.setIfInBounds_toArray, List.set_cons_zero, List.set_cons_succ]
                  refine readyC (rs := [16]) (by kernel_rfl) (by simp) (each_cons (runC ops_4_7_16 (by rfl) (fun K hK => ?_)) each_nil)
                  go_simp
                  refine (some_calls B _ _ _ [r.stat, E_none] _ hX.st (by omega) hA15 hB15 (by simp)).mono ?_
                  rintro e w' ⟨v, ⟨xs, rfl, hxs⟩, rfl, hs', hg'⟩
                  have Hxs := Lib.hid (show xs.size ≤ 1000 from by simp only [List.mem_cons, List.not_mem_nil, or_false] at hxs; rcases hxs with rfl | rfl; (· exact Hrt.out); (· exact by decide))
                  try replace hA8 := hA8.other hg' hB8
                  try replace hA18 := hA18.other hg' hB18
                  replace hC := gb_cells2 hg' hne hC
                  replace hX := hX.step hs' hg' hne
                  clear hs' hg' hxs hA15 hB15
                  go_wp2_with fail
                  refine hK.out _ _ (fun _ => ?_) ?_
                  · (exact hC)
                  clear hK K
                  try simp only [Act.put, List.setIfInBounds_toArray, List.set_cons_zero, List.set_cons_succ]
                  refine readyC (rs := [19]) (by kernel_rfl) (by simp) (each_cons (runC ops_4_7_19 (by rfl) (fun K hK => ?_)) each_nil)
                  go_simp
                  refine (some_calls B _ _ _ [E_none, E_A] _ hX.st (by omega) hA18 hB18 (by simp)).mono ?_
                  rintro e w' ⟨v, ⟨xp, rfl, hxp⟩, rfl, hs', hg'⟩
                  have Hxp := Lib.hid (show xp.size ≤ 1000 from by simp only [List.mem_cons, List.not_mem_nil, or_false] at hxp; rcases hxp with rfl | rfl; (· exact by decide); (· exact by decide))
                  try replace hA8 := hA8.other hg' hB8
                  try replace hA15 := hA15.other hg' hB15
                  replace hC := gb_cells2 hg' hne hC
                  replace hX := hX.step hs' hg' hne
                  clear hs' hg' hxp hA18 hB18
                  go_wp2_with fail
                  refine hK.out _ _ (fun _ => ?_) ?_
                  · (exact hC)
                  clear hK K
                  try simp only [Act.put, List.setIfInBounds_toArray, List.set_cons_zero, List.set_cons_succ]
                  refine sameC (l' := #[true, true, true, true, true, true, true, true, true, true, true, true, true, true, true, true, true, true, true, true, false, false, false, false, false, false, false, false, false]) (by kernel_rfl) ?_
                  exact tail v8 v15 v18 xk xs xp w' ⟨Hxk.out, Hxs.out, Hxp.out, hX.mono (by omega)⟩
                · go_simp
                  obtain ⟨v15, e15, hA15, hB15⟩ := ws_vals hX [r.stat, E_none] (by simp)
                  simp only [List.length_cons, List.length_nil, Nat.zero_add, Nat.reduceAdd] at e15
                  try simp only [World.size_alloc] at e15
                  rw [e15]
                  clear e15
                  try replace hA8 := hA8.below (below_alloc _ (.cells ([r.stat, E_none].map Value.string).toArray 9))
                  try replace hA18 := hA18.below (below_alloc _ (.cells ([r.stat, E_none].map Value.string).toArray 9))
                  replace hX := hX.alloc (.cells ([r.stat, E_none].map Value.string).toArray 9)
                  replace hC := And.intro (below_cell (below_alloc _ (.cells ([r.stat, E_none].map Value.string).toArray 9)) hC.1) (below_cell (below_alloc _ (.cells ([r.stat, E_none].map Value.string).toArray 9)) hC.2)
                  go_wp2_with fail
                  refine hK.out _ _ (fun _ => ?_) ?_
                  · (exact hC)
                  clear hK K
                  try simp only [Act.put, List.setIfInBounds_toArray, List.set_cons_zero, List.set_cons_succ]
                  refine readyC (rs := [9]) (by kernel_rfl) (by simp) (each_cons (runC ops_4_7_9 (by rfl) (fun K hK => ?_)) each_nil)
                  go_simp
                  refine (some_calls B _ _ _ [E_none, r.key, F_ra] _ hX.st (by omega) hA8 hB8 (by simp)).mono ?_
                  rintro e w' ⟨v, ⟨xk, rfl, hxk⟩, rfl, hs', hg'⟩
                  have Hxk := Lib.hid (show xk.size ≤ 1000 from by simp only [List.mem_cons, List.not_mem_nil, or_false] at hxk; rcases hxk with rfl | rfl | rfl; (· exact by decide); (· exact Hrk.out); (· exact by decide))
                  try replace hA15 := hA15.other hg' hB15
                  try replace hA18 := hA18.other hg' hB18
                  replace hC := gb_cells2 hg' hne hC
                  replace hX := hX.step hs' hg' hne
                  clear hs' hg' hxk hA8 hB8
                  go_wp2_with fail
                  refine hK.out _ _ (fun _ => ?_) ?_
                  · (exact hC)
                  clear hK K
                  try simp only [Act.put, List.setIfInBounds_toArray, List.set_cons_zero, List.set_cons_succ]
                  refine readyC (rs := [16]) (by kernel_rfl) (by simp) (each_cons (runC ops_4_7_16 (by rfl) (fun K hK => ?_)) each_nil)
                  go_simp
                  refine (some_calls B _ _ _ [r.stat, E_none] _ hX.st (by omega) hA15 hB15 (by simp)).mono ?_
                  rintro e w' ⟨v, ⟨xs, rfl, hxs⟩, rfl, hs', hg'⟩
                  have Hxs := Lib.hid (show xs.size ≤ 1000 from by simp only [List.mem_cons, List.not_mem_nil, or_false] at hxs; rcases hxs with rfl | rfl; (· exact Hrt.out); (· exact by decide))
                  try replace hA8 := hA8.other hg' hB8
                  try replace hA18 := hA18.other hg' hB18
                  replace hC := gb_cells2 hg' hne hC
                  replace hX := hX.step hs' hg' hne
                  clear hs' hg' hxs hA15 hB15
                  go_wp2_with fail
                  refine hK.out _ _ (fun _ => ?_) ?_
                  · (exact hC)
                  clear hK K
                  try simp only [Act.put, List.setIfInBounds_toArray, List.set_cons_zero, List.set_cons_succ]
                  refine readyC (rs := [19]) (by kernel_rfl) (by simp) (each_cons (runC ops_4_7_19 (by rfl) (fun K hK => ?_)) each_nil)
                  go_simp
                  refine (some_calls B _ _ _ [E_none, E_A] _ hX.st (by omega) hA18 hB18 (by simp)).mono ?_
                  rintro e w' ⟨v, ⟨xp, rfl, hxp⟩, rfl, hs', hg'⟩
                  have Hxp := Lib.hid (show xp.size ≤ 1000 from by simp only [List.mem_cons, List.not_mem_nil, or_false] at hxp; rcases hxp with rfl | rfl; (· exact by decide); (· exact by decide))
                  try replace hA8 := hA8.other hg' hB8
                  try replace hA15 := hA15.other hg' hB15
                  replace hC := gb_cells2 hg' hne hC
                  replace hX := hX.step hs' hg' hne
                  clear hs' hg' hxp hA18 hB18
                  go_wp2_with fail
                  refine hK.out _ _ (fun _ => ?_) ?_
                  · (exact hC)
                  clear hK K
                  try simp only [Act.put, List.setIfInBounds_toArray, List.set_cons_zero, List.set_cons_succ]
                  refine sameC (l' := #[true, true, true, true, true, true, true, true, true, true, true, true, true, true, true, true, true, true, true, true, false, false, false, false, false, false, false, false, false]) (by kernel_rfl) ?_
                  exact tail v8 v15 v18 xk xs xp w' ⟨Hxk.out, Hxs.out, Hxp.out, hX.mono (by omega)⟩
              · go_simp
                obtain ⟨v15, e15, hA15, hB15⟩ := ws_vals hX [r.stat, E_none] (by simp)
                simp only [List.length_cons, List.length_nil, Nat.zero_add, Nat.reduceAdd] at e15
                try simp only [World.size_alloc] at e15
                rw [e15]
                clear e15
                try replace hA8 := hA8.below (below_alloc _ (.cells ([r.stat, E_none].map Value.string).toArray 9))
                try replace hA18 := hA18.below (below_alloc _ (.cells ([r.stat, E_none].map Value.string).toArray 9))
                replace hX := hX.alloc (.cells ([r.stat, E_none].map Value.string).toArray 9)
                replace hC := And.intro (below_cell (below_alloc _ (.cells ([r.stat, E_none].map Value.string).toArray 9)) hC.1) (below_cell (below_alloc _ (.cells ([r.stat, E_none].map Value.string).toArray 9)) hC.2)
                go_wp2_with fail
                refine hK.out _ _ (fun _ => ?_) ?_
                · (exact hC)
                clear hK K
                try simp only [Act.put, List.setIfInBounds_toArray, List.set_cons_zero, List.set_cons_succ]
                refine readyC (rs := [8]) (by kernel_rfl) (by simp) (each_cons (runC ops_4_7_8 (by rfl) (fun K hK => ?_)) each_nil)
                go_simp
                obtain ⟨v8, e8, hA8, hB8⟩ := ws_vals hX [E_none, r.key, F_ra] (by simp)
                simp only [List.length_cons, List.length_nil, Nat.zero_add, Nat.reduceAdd] at e8
                try simp only [World.size_alloc] at e8
                rw [e8]
                clear e8
                try replace hA15 := hA15.below (below_alloc _ (.cells ([E_none, r.key, F_ra].map Value.string).toArray 9))
                try replace hA18 := hA18.below (below_alloc _ (.cells ([E_none, r.key, F_ra].map Value.string).toArray 9))
                replace hX := hX.alloc (.cells ([E_none, r.key, F_ra].map Value.string).toArray 9)
                replace hC := And.intro (below_cell (below_alloc _ (.cells ([E_none, r.key, F_ra].map Value.string).toArray 9)) hC.1) (below_cell (below_alloc _ (.cells ([E_none, r.key, F_ra].map Value.string).toArray 9)) hC.2)
                go_wp2_with fail
                refine hK.out _ _ (fun _ => ?_) ?_
                · (exact hC)
                clear hK K
                try simp only [Act.put, List.setIfInBounds_toArray, List.set_cons_zero, List.set_cons_succ]
                refine readyC (rs := [9]) (by kernel_rfl) (by simp) (each_cons (runC ops_4_7_9 (by rfl) (fun K hK => ?_)) each_nil)
                go_simp
                refine (some_calls B _ _ _ [E_none, r.key, F_ra] _ hX.st (by omega) hA8 hB8 (by simp)).mono ?_
                rintro e w' ⟨v, ⟨xk, rfl, hxk⟩, rfl, hs', hg'⟩
                have Hxk := Lib.hid (show xk.size ≤ 1000 from by simp only [List.mem_cons, List.not_mem_nil, or_false] at hxk; rcases hxk with rfl | rfl | rfl; (· exact by decide); (· exact Hrk.out); (· exact by decide))
                try replace hA15 := hA15.other hg' hB15
                try replace hA18 := hA18.other hg' hB18
                replace hC := gb_cells2 hg' hne hC
                replace hX := hX.step hs' hg' hne
                clear hs' hg' hxk hA8 hB8
                go_wp2_with fail
                refine hK.out _ _ (fun _ => ?_) ?_
                · (exact hC)
                clear hK K
                try simp only [Act.put, List.setIfInBounds_toArray, List.set_cons_zero, List.set_cons_succ]
                refine readyC (rs := [16]) (by kernel_rfl) (by simp) (each_cons (runC ops_4_7_16 (by rfl) (fun K hK => ?_)) each_nil)
                go_simp
                refine (some_calls B _ _ _ [r.stat, E_none] _ hX.st (by omega) hA15 hB15 (by simp)).mono ?_
                rintro e w' ⟨v, ⟨xs, rfl, hxs⟩, rfl, hs', hg'⟩
                have Hxs := Lib.hid (show xs.size ≤ 1000 from by simp only [List.mem_cons, List.not_mem_nil, or_false] at hxs; rcases hxs with rfl | rfl; (· exact Hrt.out); (· exact by decide))
                try replace hA8 := hA8.other hg' hB8
                try replace hA18 := hA18.other hg' hB18
                replace hC := gb_cells2 hg' hne hC
                replace hX := hX.step hs' hg' hne
                clear hs' hg' hxs hA15 hB15
                go_wp2_with fail
                refine hK.out _ _ (fun _ => ?_) ?_
                · (exact hC)
                clear hK K
                try simp only [Act.put, List.setIfInBounds_toArray, List.set_cons_zero, List.set_cons_succ]
                refine readyC (rs := [19]) (by kernel_rfl) (by simp) (each_cons (runC ops_4_7_19 (by rfl) (fun K hK => ?_)) each_nil)
                go_simp
                refine (some_calls B _ _ _ [E_none, E_A] _ hX.st (by omega) hA18 hB18 (by simp)).mono ?_
                rintro e w' ⟨v, ⟨xp, rfl, hxp⟩, rfl, hs', hg'⟩
                have Hxp := Lib.hid (show xp.size ≤ 1000 from by simp only [List.mem_cons, List.not_mem_nil, or_false] at hxp; rcases hxp with rfl | rfl; (· exact by decide); (· exact by decide))
                try replace hA8 := hA8.other hg' hB8
                try replace hA15 := hA15.other hg' hB15
                replace hC := gb_cells2 hg' hne hC
                replace hX := hX.step hs' hg' hne
                clear hs' hg' hxp hA18 hB18
                go_wp2_with fail
                refine hK.out _ _ (fun _ => ?_) ?_
                · (exact hC)
                clear hK K
                try simp only [Act.put, List.setIfInBounds_toArray, List.set_cons_zero, List.set_cons_succ]
                refine sameC (l' := #[true, true, true, true, true, true, true, true, true, true, true, true, true, true, true, true, true, true, true, true, false, false, false, false, false, false, false, false, false]) (by kernel_rfl) ?_
                exact tail v8 v15 v18 xk xs xp w' ⟨Hxk.out, Hxs.out, Hxp.out, hX.mono (by omega)⟩
          · intro v8 v15 v18 xk xs xp W ⟨hxk, hxs, hxp, hX⟩
            have Hxk := Lib.hid hxk
            have Hxs := Lib.hid hxs
            have Hxp := Lib.hid hxp
            clear hxk hxs hxp
            refine takeC 20 49 (v := ?_) ops_4_7_20 rfl (by kernel_rfl) (by kernel_rfl) (by kernel_rfl) (by rfl) (fun _ _ _ h => h) (by rfl) ?y20_15 ?_
            case y20_15 =>
              intro w
              go_simp
              try with_reducible rfl
            simp only [List.set_cons_zero, List.set_cons_succ]
            refine takeC 21 50 (v := ?_) ops_4_7_21 rfl (by kernel_rfl) (by kernel_rfl) (by kernel_rfl) (by rfl) (fun _ _ _ h => h) (by rfl) ?y21_16 ?_
            case y21_16 =>
              intro w
              go_simp
              try with_reducible rfl
            simp only [List.set_cons_zero, List.set_cons_succ]
            refine readyC (rs := [22]) (by kernel_rfl) (by simp) (each_cons (runC ops_4_7_22 (by rfl) (fun K hK => ?_)) each_nil)
            obtain ⟨r2, -, q0, q1, q2, -, -, -, -, qf⟩ := hX.cells
            go_simp
            replace hX := hX.key hBw hgb xk Hxk.out
            clear q0 q1 q2 qf
            refine hK.out _ _ (fun h => absurd h (by decide)) ?_
            clear hK K
            try simp only [List.setIfInBounds_toArray, List.set_cons_zero, List.set_cons_succ]
            refine takeC 23 51 (v := ?_) ops_4_7_23 rfl (by kernel_rfl) (by kernel_rfl) (by kernel_rfl) (by rfl) (fun _ _ _ h => h) (by rfl) ?y23_17 ?_
            case y23_17 =>
              intro w
              go_simp
              try with_reducible rfl
            simp only [List.set_cons_zero, List.set_cons_succ]
            refine takeC 24 52 (v := ?_) ops_4_7_24 rfl (by kernel_rfl) (by kernel_rfl) (by kernel_rfl) (by rfl) (fun _ _ _ h => h) (by rfl) ?y24_18 ?_
            case y24_18 =>
              intro w
              go_simp
              try with_reducible rfl
            simp only [List.set_cons_zero, List.set_cons_succ]
            refine readyC (rs := [25]) (by kernel_rfl) (by simp) (each_cons (runC ops_4_7_25 (by rfl) (fun K hK => ?_)) each_nil)
            obtain ⟨r2, -, q0, q1, q2, -, -, -, -, qf⟩ := hX.cells
            go_simp
            replace hX := hX.stat hBw hgb xs Hxs.out
            clear q0 q1 q2 qf
            refine hK.out _ _ (fun h => absurd h (by decide)) ?_
            clear hK K
            try simp only [List.setIfInBounds_toArray, List.set_cons_zero, List.set_cons_succ]
            refine takeC 26 53 (v := ?_) ops_4_7_26 rfl (by kernel_rfl) (by kernel_rfl) (by kernel_rfl) (by rfl) (fun _ _ _ h => h) (by rfl) ?y26_19 ?_
            case y26_19 =>
              intro w
              go_simp
              try with_reducible rfl
            simp only [List.set_cons_zero, List.set_cons_succ]
            refine takeC 27 54 (v := ?_) ops_4_7_27 rfl (by kernel_rfl) (by kernel_rfl) (by kernel_rfl) (by rfl) (fun _ _ _ h => h) (by rfl) ?y27_20 ?_
            case y27_20 =>
              intro w
              go_simp
              try with_reducible rfl
            simp only [List.set_cons_zero, List.set_cons_succ]
            refine readyC (rs := [28]) (by kernel_rfl) (by simp) (each_cons (runC ops_4_7_28 (by rfl) (fun K hK => ?_)) each_nil)
            obtain ⟨r2, -, q0, q1, q2, -, -, -, -, qf⟩ := hX.cells
            go_simp
            replace hX := hX.pos hBw hgb xp Hxp.out
            clear q0 q1 q2 qf
            refine hK.out _ _ (fun h => absurd h (by decide)) ?_
            clear hK K
            try simp only [List.setIfInBounds_toArray, List.set_cons_zero, List.set_cons_succ]
            refine doneC (by kernel_rfl) ?_ _
            go_wp2_with fail
            go_ret
            exact ⟨_, hX.made (by omega) hle hgb, rfl, hX.st.mono (by omega), hX.gb⟩
        · by_cases hq1 : q = 1
          · subst hq1
            clear hq hq0
            go_wp2_with fail
            refine (odd_calls B _ 1 4 _ hX.st (by omega) (by omega) (by omega) (by omega)).mono ?_
            rintro e w5 ⟨v, ⟨x, rfl, hx1, hx2⟩, rfl, hs5, hg5⟩
            have Hx := Lib.hid (show Int64 x by unfold Int64; omega)
            replace hX := hX.step hs5 hg5 hne
            clear hx1 hx2 hs5 hg5
            go_wp2_with fail
            refine (odd_calls B _ 0 100000 _ hX.st (by omega) (by omega) (by omega) (by omega)).mono ?_
            rintro e w6 ⟨v, ⟨y, rfl, hy1, hy2⟩, rfl, hs6, hg6⟩
            have Hy := Lib.hid (show Int64 y by unfold Int64; omega)
            replace hX := hX.step hs6 hg6 hne
            obtain ⟨r, hr, -, -, -, c3, c4, -, -, cf⟩ := hX.cells
            clear hy1 hy2 hs6 hg6 hr
            go_wp2_with fail
            go_ret
            have hY := (hX.kind hBw hgb x Hx.out).many hBw hgb y Hy.out
            exact ⟨_, hY.made (by omega) hle hgb, rfl, hY.st.mono (by omega), hY.gb⟩
          · have e0 : ((q : Int) == 0) = false := by rw [beq_eq_false_iff_ne]; omega
            have e1 : ((q : Int) == 1) = false := by rw [beq_eq_false_iff_ne]; omega
            clear hq hq0 hq1
            go_wp2_with fail
            refine (worth_calls B _ _ hX.st (by omega)).mono ?_
            rintro e w5 ⟨v, ⟨x, y, rfl, hx, hy⟩, rfl, hs5, hg5⟩
            have Hx := Lib.hid hx
            have Hy := Lib.hid hy
            replace hX := hX.step hs5 hg5 hne
            obtain ⟨r, hr, -, -, -, -, -, c5, c6, cf⟩ := hX.cells
            clear hx hy hs5 hg5 hr
            unfold frV
            go_wp2_with fail
            go_ret
            have hY := (hX.num hBw hgb x Hx.out).den hBw hgb y Hy.out
            exact ⟨_, hY.made (by omega) hle hgb, rfl, hY.st.mono (by omega), hY.gb⟩
end Go.Proofs.YtmejjkicagkogaaGreatDoor
