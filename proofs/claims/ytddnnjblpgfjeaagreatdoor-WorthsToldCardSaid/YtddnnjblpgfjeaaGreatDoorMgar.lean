/- CheckAssets and CheckPlaces. -/
import Derived.Test.YtddnnjblpgfjeaaGreatDoorMgao
import Derived.Test.YtddnnjblpgfjeaaGreatDoorMgaq
import Derived.Test.YtddnnjblpgfjeaaGreatDoorMgak
import Derived.Test.YtddnnjblpgfjeaaGreatDoorMgac
import Derived.Deep.CutRange
import Derived.Test.YtddnnjblpgfjeaaGreatDoorMgal
import Derived.Test.YtddnnjblpgfjeaaGreatDoorMgai
/- How assets are drawn. -/
namespace Go.Proofs.YtddnnjblpgfjeaaGreatDoor
open Go.RowKit

def SmallA (x : AsD) : Prop := x.player.size ≤ 1000 ∧ x.pos.size ≤ 1000 ∧ (-4611686018427387904 ≤ x.value ∧ x.value ≤ 4611686018427387904)
/-- Assets in block g, one of which is written: the stream goes on. -/
def AW (w : World) (B g m i n : Nat) (w' : World) : Prop :=
 ∃ (rs : List AsD) (r : AsD), rs.length = m ∧ rs[i]? = some r ∧ (∀ x ∈ rs, SmallA x) ∧ RowsAt w' 78 g 0 3 (rs.map asRow) ∧ St w' B n ∧ w.grownBy w' (some B)
theorem AW.st {w : World} {B g m i n : Nat} {w' : World} (h : AW w B g m i n w') : St w' B n := by obtain ⟨_, _, _, _, _, _, h, _⟩ := h; exact h
theorem AW.gb {w : World} {B g m i n : Nat} {w' : World} (h : AW w B g m i n w') : w.grownBy w' (some B) := by obtain ⟨_, _, _, _, _, _, _, h⟩ := h; exact h
theorem AW.mono {w : World} {B g m i n k : Nat} {w' : World} (h : AW w B g m i n w') (hk : n ≤ k) : AW w B g m i k w' := by
 obtain ⟨rs, r, h1, h2, h3, h4, h5, h6⟩ := h; exact ⟨rs, r, h1, h2, h3, h4, h5.mono hk, h6⟩
theorem AW.step {w : World} {B g m i n k : Nat} {w' w'' : World} (h : AW w B g m i n w') (hs : St w'' B k) (hg : w'.grownBy w'' (some B)) (hne : g ≠ B) : AW w B g m i k w'' := by
 obtain ⟨rs, r, h1, h2, h3, h4, h5, h6⟩ := h
 exact ⟨rs, r, h1, h2, h3, h4.lift (hg.block g h4.lt (by intro e; cases e; exact hne rfl)), hs, gb_trans h6 hg⟩
theorem AW.alloc {w : World} {B g m i n : Nat} {w' : World} (h : AW w B g m i n w') (o : Obj) : AW w B g m i n (w'.alloc o) := by
 obtain ⟨rs, r, h1, h2, h3, h4, h5, h6⟩ := h
 exact ⟨rs, r, h1, h2, h3, h4.below (below_alloc w' o), h5.alloc o, gb_trans h6 (gb_alloc w' o _)⟩
theorem AW.drew {w : World} {B g m i n : Nat} {w' : World} (h : AW w B g m i n w') : AW w B g m i n w'.drew := by
 obtain ⟨rs, r, h1, h2, h3, h4, h5, h6⟩ := h
 exact ⟨rs, r, h1, h2, h3, h4, h5, gb_trans h6 (gb_drewN w' 1 _)⟩
theorem AW.cells {w : World} {B g m i n : Nat} {w' : World} (h : AW w B g m i n w') : ∃ r : AsD, SmallA r ∧
  w'.cell? ⟨g, i * 3, none⟩ = some (.string r.player) ∧ w'.cell? ⟨g, i * 3 + 1, none⟩ = some (.string r.pos) ∧ w'.cell? ⟨g, i * 3 + 2, none⟩ = some (.int .i64 r.value) ∧ ∀ o, w'.frozen? ⟨g, o, none⟩ = false := by
 obtain ⟨rs, r, h1, h2, h3, h4, h5, h6⟩ := h
 have hx := as_cells h4 h2
 simp only [Nat.zero_add] at hx
 exact ⟨r, h3 r (List.mem_of_getElem? h2), hx.1, hx.2.1, hx.2.2, fun o => h4.free o⟩
/-- One cell of the asset is written. -/
theorem AW.put {w : World} {B g m i n : Nat} {w' : World} (h : AW w B g m i n w') (hB : B < w.heap.size) (hg : w.heap.size ≤ g) (f : Nat) (u : Value) (hf : f < 3) (hu : ∀ r : AsD, SmallA r → ∃ r' : AsD, SmallA r' ∧ (asRow r).set f u = asRow r') : AW w B g m i n (w'.setCell ⟨g, i * 3 + f, none⟩ u) := by
 obtain ⟨rs, r, h1, h2, h3, h4, h5, h6⟩ := h
 obtain ⟨r', hr', he⟩ := hu r (h3 r (List.mem_of_getElem? h2))
 have hi : i < rs.length := (List.getElem?_eq_some_iff.1 h2).1
 have hs := h4.set (i := i) (f := f) (row := asRow r) (by simp [h2]) hf u
 rw [he, Nat.zero_add, ← List.map_set] at hs
 have hgr := gb_setCell w' g (i * 3 + f) u
 refine ⟨rs.set i r', r', by simpa using h1, by simp [hi], fun x hx => ?_, hs, h5.grown hgr fun r hr => by cases hr; omega, gb_then h6 hgr fun r hr => by cases hr; exact hg⟩
 rcases List.mem_or_eq_of_mem_set hx with hx | rfl
 ·exact h3 x hx
 ·exact hr'
theorem AW.player {w : World} {B g m i n : Nat} {w' : World} (h : AW w B g m i n w') (hB : B < w.heap.size) (hg : w.heap.size ≤ g) (k : ByteArray) (hk : k.size ≤ 1000) : AW w B g m i n (w'.setCell ⟨g, i * 3, none⟩ (.string k)) :=
 h.put hB hg 0 _ (by omega) fun r hr => ⟨{ r with player := k }, ⟨hk, hr.2⟩, rfl⟩
theorem AW.pos {w : World} {B g m i n : Nat} {w' : World} (h : AW w B g m i n w') (hB : B < w.heap.size) (hg : w.heap.size ≤ g) (k : ByteArray) (hk : k.size ≤ 1000) : AW w B g m i n (w'.setCell ⟨g, i * 3 + 1, none⟩ (.string k)) :=
 h.put hB hg 1 _ (by omega) fun r hr => ⟨{ r with pos := k }, ⟨hr.1, hk, hr.2.2⟩, rfl⟩
theorem AW.value {w : World} {B g m i n : Nat} {w' : World} (h : AW w B g m i n w') (hB : B < w.heap.size) (hg : w.heap.size ≤ g) (x : Int) (hx : -4611686018427387904 ≤ x ∧ x ≤ 4611686018427387904) : AW w B g m i n (w'.setCell ⟨g, i * 3 + 2, none⟩ (.int .i64 x)) :=
 h.put hB hg 2 _ (by omega) fun r hr => ⟨{ r with value := x }, ⟨hr.1, hr.2.1, hx⟩, rfl⟩
theorem aw_vals {w : World} {B g m i n : Nat} {w' : World} (h : AW w B g m i n w') (ks : List ByteArray) (hk : ks.length ≤ 1000000) :
  ∃ v, Value.slice (some ⟨w'.heap.size, 0, none⟩) ks.length ks.length = v ∧ Strs (w'.alloc (.cells (ks.map Value.string).toArray 9)) w'.heap.size v ks ∧ B < w'.heap.size := ⟨_, rfl, strs_new w' ks hk, h.st.lt⟩
theorem gb_cells2A {w w' : World} {B g o p : Nat} {a b : Value} (hg : w.grownBy w' (some B)) (hne : g ≠ B) (h : w.cell? ⟨g, o, none⟩ = some a ∧ w.cell? ⟨g, p, none⟩ = some b) : w'.cell? ⟨g, o, none⟩ = some a ∧ w'.cell? ⟨g, p, none⟩ = some b :=
 ⟨gb_cell hg h.1 hne, gb_cell hg h.2 hne⟩
def T_none : ByteArray := ⟨#[]⟩
/-- Assets, drawn. -/
def SomeAs (lo : Nat) (w : World) (v : Value) : Prop := ∃ rs, Ass w lo v rs ∧ rs.length ≤ 7 ∧ ∀ r ∈ rs, SmallA r
theorem AW.made {w : World} {B g m i n c : Nat} {w' : World} (h : AW w B g m i n w') (hm : m ≤ 7) (hc : m ≤ c) (hg : w.heap.size ≤ g) : SomeAs w.heap.size w' (.slice (some ⟨g, 0, none⟩) m c) := by
 obtain ⟨rs, r, h1, h2, h3, h4, h5, h6⟩ := h
 refine ⟨rs, ?_, by omega, h3⟩
 have := h4.rows (lo := w.heap.size) (cap := c) (by simp; omega) hg (by simp; omega)
 rw [List.length_map, h1] at this
 exact this
def o23_9 : Array Go.Oper := #[
 ⟨some 41, .move (.tmp 7), 123, "h06_plays.go:466", #[], none⟩,
 ⟨some 42, .move (.tmp 7), 123, "h06_plays.go:466", #[⟨23, .gcOnly .lateStores⟩], none⟩,
 ⟨some 43, .move (.tmp 7), 123, "h06_plays.go:466", #[⟨26, .gcOnly .lateStores⟩], none⟩,
 ⟨some 44, .move (.tmp 0), 23, "h06_plays.go:466", #[], none⟩,
 ⟨some 45, .move (.tmp 7), 123, "h06_plays.go:466", #[], none⟩,
 ⟨some 46, .nilCheck (.tmp 45), 0, "h06_plays.go:466", #[⟨4, .data⟩], none⟩,
 ⟨some 47, .fieldAddr 78 (.tmp 46) 0, 0, "h06_plays.go:466", #[⟨5, .data⟩], none⟩,
 ⟨some 48, .load 9 (.tmp 47), 9, "h06_plays.go:466", #[⟨6, .data⟩], none⟩,
 ⟨some 49, .move (.tmp 1), 9, "h06_plays.go:466", #[], none⟩,
 ⟨some 50, .binOp .add 9 (.tmp 49) (.const (.string { data := #[48] })) 9, 9, "h06_plays.go:466", #[⟨8, .data⟩], none⟩,
 ⟨some 51, .buildSlice 26 3 #[(0, .tmp 48), (1, .const (.string { data := #[] })), (2, .tmp 50)], 26, "h06_plays.go:466", #[⟨7, .data⟩, ⟨9, .data⟩], none⟩,
 ⟨some 52, .call { callee := .value (.func 41), args := #[.tmp 44, .tmp 51], argTypes := #[23, 26] }, 9, "h06_plays.go:466", #[⟨3, .data⟩, ⟨10, .data⟩], none⟩,
 ⟨some 53, .move (.tmp 0), 23, "h06_plays.go:466", #[], none⟩,
 ⟨some 54, .move (.tmp 7), 123, "h06_plays.go:466", #[], none⟩,
 ⟨some 55, .nilCheck (.tmp 54), 0, "h06_plays.go:466", #[⟨13, .data⟩], none⟩,
 ⟨some 56, .fieldAddr 78 (.tmp 55) 1, 0, "h06_plays.go:466", #[⟨14, .data⟩], none⟩,
 ⟨some 57, .load 9 (.tmp 56), 9, "h06_plays.go:466", #[⟨15, .data⟩], none⟩,
 ⟨some 58, .buildSlice 26 2 #[(0, .tmp 57), (1, .const (.string { data := #[] }))], 26, "h06_plays.go:466", #[⟨16, .data⟩], none⟩,
 ⟨some 59, .call { callee := .value (.func 41), args := #[.tmp 53, .tmp 58], argTypes := #[23, 26] }, 9, "h06_plays.go:466", #[⟨12, .data⟩, ⟨17, .data⟩, ⟨11, .chain⟩], none⟩,
 ⟨some 60, .move (.tmp 0), 23, "h06_plays.go:466", #[], none⟩,
 ⟨some 61, .call { callee := .value (.func 54), args := #[.tmp 60, .const (.int .i64 (-1000000)), .const (.int .i64 1000000)], argTypes := #[23, 3, 3] }, 3, "h06_plays.go:466", #[⟨19, .data⟩, ⟨18, .chain⟩], none⟩,
 ⟨some 62, .nilCheck (.tmp 41), 0, "h06_plays.go:466", #[⟨0, .data⟩, ⟨0, .phase⟩, ⟨1, .textOnly .lateStores⟩, ⟨2, .textOnly .lateStores⟩, ⟨3, .phase⟩, ⟨4, .phase⟩, ⟨5, .phase⟩, ⟨6, .phase⟩, ⟨7, .phase⟩, ⟨8, .phase⟩, ⟨9, .phase⟩, ⟨10, .phase⟩, ⟨11, .phase⟩, ⟨12, .textOnly .lateStores⟩, ⟨13, .textOnly .lateStores⟩, ⟨14, .textOnly .lateStoresUnsure⟩, ⟨15, .textOnly .lateStoresUnsure⟩, ⟨16, .phase⟩, ⟨17, .textOnly .lateStoresUnsure⟩, ⟨18, .phase⟩, ⟨19, .textOnly .lateStores⟩, ⟨20, .phase⟩], none⟩,
 ⟨some 63, .fieldAddr 78 (.tmp 62) 0, 0, "h06_plays.go:466", #[⟨21, .data⟩, ⟨0, .phase⟩, ⟨1, .textOnly .lateStores⟩, ⟨2, .textOnly .lateStores⟩, ⟨3, .phase⟩, ⟨4, .phase⟩, ⟨5, .phase⟩, ⟨6, .phase⟩, ⟨7, .phase⟩, ⟨8, .phase⟩, ⟨9, .phase⟩, ⟨10, .phase⟩, ⟨11, .phase⟩, ⟨12, .textOnly .lateStores⟩, ⟨13, .textOnly .lateStores⟩, ⟨14, .textOnly .lateStoresUnsure⟩, ⟨15, .textOnly .lateStoresUnsure⟩, ⟨16, .phase⟩, ⟨17, .textOnly .lateStoresUnsure⟩, ⟨18, .phase⟩, ⟨19, .textOnly .lateStores⟩, ⟨20, .phase⟩], none⟩,
 ⟨none, .store 9 (.tmp 63) (.tmp 52), 0, "h06_plays.go:466", #[⟨22, .data⟩, ⟨11, .data⟩, ⟨20, .chain⟩, ⟨0, .phase⟩, ⟨1, .textOnly .lateStores⟩, ⟨2, .textOnly .lateStores⟩, ⟨3, .phase⟩, ⟨4, .phase⟩, ⟨5, .phase⟩, ⟨6, .phase⟩, ⟨7, .phase⟩, ⟨8, .phase⟩, ⟨9, .phase⟩, ⟨10, .phase⟩, ⟨11, .phase⟩, ⟨12, .textOnly .lateStores⟩, ⟨13, .textOnly .lateStores⟩, ⟨14, .textOnly .lateStoresUnsure⟩, ⟨15, .textOnly .lateStoresUnsure⟩, ⟨16, .phase⟩, ⟨17, .textOnly .lateStoresUnsure⟩, ⟨18, .phase⟩, ⟨19, .textOnly .lateStores⟩, ⟨20, .phase⟩], none⟩,
 ⟨some 64, .nilCheck (.tmp 42), 0, "h06_plays.go:466", #[⟨1, .data⟩, ⟨0, .phase⟩, ⟨1, .phase⟩, ⟨2, .textOnly .lateStores⟩, ⟨3, .phase⟩, ⟨4, .phase⟩, ⟨5, .phase⟩, ⟨6, .phase⟩, ⟨7, .phase⟩, ⟨8, .phase⟩, ⟨9, .phase⟩, ⟨10, .phase⟩, ⟨11, .phase⟩, ⟨12, .phase⟩, ⟨13, .phase⟩, ⟨14, .phase⟩, ⟨15, .phase⟩, ⟨16, .phase⟩, ⟨17, .phase⟩, ⟨18, .phase⟩, ⟨19, .textOnly .lateStores⟩, ⟨20, .phase⟩, ⟨21, .phase⟩, ⟨22, .phase⟩, ⟨23, .phase⟩], none⟩,
 ⟨some 65, .fieldAddr 78 (.tmp 64) 1, 0, "h06_plays.go:466", #[⟨24, .data⟩, ⟨0, .phase⟩, ⟨1, .phase⟩, ⟨2, .textOnly .lateStores⟩, ⟨3, .phase⟩, ⟨4, .phase⟩, ⟨5, .phase⟩, ⟨6, .phase⟩, ⟨7, .phase⟩, ⟨8, .phase⟩, ⟨9, .phase⟩, ⟨10, .phase⟩, ⟨11, .phase⟩, ⟨12, .phase⟩, ⟨13, .phase⟩, ⟨14, .phase⟩, ⟨15, .phase⟩, ⟨16, .phase⟩, ⟨17, .phase⟩, ⟨18, .phase⟩, ⟨19, .textOnly .lateStores⟩, ⟨20, .phase⟩, ⟨21, .phase⟩, ⟨22, .phase⟩, ⟨23, .phase⟩], none⟩,
 ⟨none, .store 9 (.tmp 65) (.tmp 59), 0, "h06_plays.go:466", #[⟨25, .data⟩, ⟨18, .data⟩, ⟨23, .chain⟩, ⟨0, .phase⟩, ⟨1, .phase⟩, ⟨2, .textOnly .lateStores⟩, ⟨3, .phase⟩, ⟨4, .phase⟩, ⟨5, .phase⟩, ⟨6, .phase⟩, ⟨7, .phase⟩, ⟨8, .phase⟩, ⟨9, .phase⟩, ⟨10, .phase⟩, ⟨11, .phase⟩, ⟨12, .phase⟩, ⟨13, .phase⟩, ⟨14, .phase⟩, ⟨15, .phase⟩, ⟨16, .phase⟩, ⟨17, .phase⟩, ⟨18, .phase⟩, ⟨19, .textOnly .lateStores⟩, ⟨20, .phase⟩, ⟨21, .phase⟩, ⟨22, .phase⟩, ⟨23, .phase⟩], none⟩,
 ⟨some 66, .nilCheck (.tmp 43), 0, "h06_plays.go:466", #[⟨2, .data⟩, ⟨0, .phase⟩, ⟨1, .phase⟩, ⟨2, .phase⟩, ⟨3, .phase⟩, ⟨4, .phase⟩, ⟨5, .phase⟩, ⟨6, .phase⟩, ⟨7, .phase⟩, ⟨8, .phase⟩, ⟨9, .phase⟩, ⟨10, .phase⟩, ⟨11, .phase⟩, ⟨12, .phase⟩, ⟨13, .phase⟩, ⟨14, .phase⟩, ⟨15, .phase⟩, ⟨16, .phase⟩, ⟨17, .phase⟩, ⟨18, .phase⟩, ⟨19, .phase⟩, ⟨20, .phase⟩, ⟨21, .phase⟩, ⟨22, .phase⟩, ⟨23, .phase⟩, ⟨24, .phase⟩, ⟨25, .phase⟩, ⟨26, .phase⟩], none⟩,
 ⟨some 67, .fieldAddr 78 (.tmp 66) 2, 0, "h06_plays.go:466", #[⟨27, .data⟩, ⟨0, .phase⟩, ⟨1, .phase⟩, ⟨2, .phase⟩, ⟨3, .phase⟩, ⟨4, .phase⟩, ⟨5, .phase⟩, ⟨6, .phase⟩, ⟨7, .phase⟩, ⟨8, .phase⟩, ⟨9, .phase⟩, ⟨10, .phase⟩, ⟨11, .phase⟩, ⟨12, .phase⟩, ⟨13, .phase⟩, ⟨14, .phase⟩, ⟨15, .phase⟩, ⟨16, .phase⟩, ⟨17, .phase⟩, ⟨18, .phase⟩, ⟨19, .phase⟩, ⟨20, .phase⟩, ⟨21, .phase⟩, ⟨22, .phase⟩, ⟨23, .phase⟩, ⟨24, .phase⟩, ⟨25, .phase⟩, ⟨26, .phase⟩], none⟩,
 ⟨none, .store 3 (.tmp 67) (.tmp 61), 0, "h06_plays.go:466", #[⟨28, .data⟩, ⟨20, .data⟩, ⟨26, .chain⟩, ⟨0, .phase⟩, ⟨1, .phase⟩, ⟨2, .phase⟩, ⟨3, .phase⟩, ⟨4, .phase⟩, ⟨5, .phase⟩, ⟨6, .phase⟩, ⟨7, .phase⟩, ⟨8, .phase⟩, ⟨9, .phase⟩, ⟨10, .phase⟩, ⟨11, .phase⟩, ⟨12, .phase⟩, ⟨13, .phase⟩, ⟨14, .phase⟩, ⟨15, .phase⟩, ⟨16, .phase⟩, ⟨17, .phase⟩, ⟨18, .phase⟩, ⟨19, .phase⟩, ⟨20, .phase⟩, ⟨21, .phase⟩, ⟨22, .phase⟩, ⟨23, .phase⟩, ⟨24, .phase⟩, ⟨25, .phase⟩, ⟨26, .phase⟩], none⟩]
theorem o23_9_0 : o23_9[0]? = some (⟨some 41, .move (.tmp 7), 123, "h06_plays.go:466", #[], none⟩ : Go.Oper) := rfl
theorem o23_9_1 : o23_9[1]? = some (⟨some 42, .move (.tmp 7), 123, "h06_plays.go:466", #[⟨23, .gcOnly .lateStores⟩], none⟩ : Go.Oper) := rfl
theorem o23_9_2 : o23_9[2]? = some (⟨some 43, .move (.tmp 7), 123, "h06_plays.go:466", #[⟨26, .gcOnly .lateStores⟩], none⟩ : Go.Oper) := rfl
theorem o23_9_3 : o23_9[3]? = some (⟨some 44, .move (.tmp 0), 23, "h06_plays.go:466", #[], none⟩ : Go.Oper) := rfl
theorem o23_9_4 : o23_9[4]? = some (⟨some 45, .move (.tmp 7), 123, "h06_plays.go:466", #[], none⟩ : Go.Oper) := rfl
theorem o23_9_5 : o23_9[5]? = some (⟨some 46, .nilCheck (.tmp 45), 0, "h06_plays.go:466", #[⟨4, .data⟩], none⟩ : Go.Oper) := rfl
theorem o23_9_6 : o23_9[6]? = some (⟨some 47, .fieldAddr 78 (.tmp 46) 0, 0, "h06_plays.go:466", #[⟨5, .data⟩], none⟩ : Go.Oper) := rfl
theorem o23_9_7 : o23_9[7]? = some (⟨some 48, .load 9 (.tmp 47), 9, "h06_plays.go:466", #[⟨6, .data⟩], none⟩ : Go.Oper) := rfl
theorem o23_9_8 : o23_9[8]? = some (⟨some 49, .move (.tmp 1), 9, "h06_plays.go:466", #[], none⟩ : Go.Oper) := rfl
theorem o23_9_9 : o23_9[9]? = some (⟨some 50, .binOp .add 9 (.tmp 49) (.const (.string { data := #[48] })) 9, 9, "h06_plays.go:466", #[⟨8, .data⟩], none⟩ : Go.Oper) := rfl
theorem o23_9_10 : o23_9[10]? = some (⟨some 51, .buildSlice 26 3 #[(0, .tmp 48), (1, .const (.string { data := #[] })), (2, .tmp 50)], 26, "h06_plays.go:466", #[⟨7, .data⟩, ⟨9, .data⟩], none⟩ : Go.Oper) := rfl
theorem o23_9_11 : o23_9[11]? = some (⟨some 52, .call { callee := .value (.func 41), args := #[.tmp 44, .tmp 51], argTypes := #[23, 26] }, 9, "h06_plays.go:466", #[⟨3, .data⟩, ⟨10, .data⟩], none⟩ : Go.Oper) := rfl
theorem o23_9_12 : o23_9[12]? = some (⟨some 53, .move (.tmp 0), 23, "h06_plays.go:466", #[], none⟩ : Go.Oper) := rfl
theorem o23_9_13 : o23_9[13]? = some (⟨some 54, .move (.tmp 7), 123, "h06_plays.go:466", #[], none⟩ : Go.Oper) := rfl
theorem o23_9_14 : o23_9[14]? = some (⟨some 55, .nilCheck (.tmp 54), 0, "h06_plays.go:466", #[⟨13, .data⟩], none⟩ : Go.Oper) := rfl
theorem o23_9_15 : o23_9[15]? = some (⟨some 56, .fieldAddr 78 (.tmp 55) 1, 0, "h06_plays.go:466", #[⟨14, .data⟩], none⟩ : Go.Oper) := rfl
theorem o23_9_16 : o23_9[16]? = some (⟨some 57, .load 9 (.tmp 56), 9, "h06_plays.go:466", #[⟨15, .data⟩], none⟩ : Go.Oper) := rfl
theorem o23_9_17 : o23_9[17]? = some (⟨some 58, .buildSlice 26 2 #[(0, .tmp 57), (1, .const (.string { data := #[] }))], 26, "h06_plays.go:466", #[⟨16, .data⟩], none⟩ : Go.Oper) := rfl
theorem o23_9_18 : o23_9[18]? = some (⟨some 59, .call { callee := .value (.func 41), args := #[.tmp 53, .tmp 58], argTypes := #[23, 26] }, 9, "h06_plays.go:466", #[⟨12, .data⟩, ⟨17, .data⟩, ⟨11, .chain⟩], none⟩ : Go.Oper) := rfl
theorem o23_9_19 : o23_9[19]? = some (⟨some 60, .move (.tmp 0), 23, "h06_plays.go:466", #[], none⟩ : Go.Oper) := rfl
theorem o23_9_20 : o23_9[20]? = some (⟨some 61, .call { callee := .value (.func 54), args := #[.tmp 60, .const (.int .i64 (-1000000)), .const (.int .i64 1000000)], argTypes := #[23, 3, 3] }, 3, "h06_plays.go:466", #[⟨19, .data⟩, ⟨18, .chain⟩], none⟩ : Go.Oper) := rfl
theorem o23_9_21 : o23_9[21]? = some (⟨some 62, .nilCheck (.tmp 41), 0, "h06_plays.go:466", #[⟨0, .data⟩, ⟨0, .phase⟩, ⟨1, .textOnly .lateStores⟩, ⟨2, .textOnly .lateStores⟩, ⟨3, .phase⟩, ⟨4, .phase⟩, ⟨5, .phase⟩, ⟨6, .phase⟩, ⟨7, .phase⟩, ⟨8, .phase⟩, ⟨9, .phase⟩, ⟨10, .phase⟩, ⟨11, .phase⟩, ⟨12, .textOnly .lateStores⟩, ⟨13, .textOnly .lateStores⟩, ⟨14, .textOnly .lateStoresUnsure⟩, ⟨15, .textOnly .lateStoresUnsure⟩, ⟨16, .phase⟩, ⟨17, .textOnly .lateStoresUnsure⟩, ⟨18, .phase⟩, ⟨19, .textOnly .lateStores⟩, ⟨20, .phase⟩], none⟩ : Go.Oper) := rfl
theorem o23_9_22 : o23_9[22]? = some (⟨some 63, .fieldAddr 78 (.tmp 62) 0, 0, "h06_plays.go:466", #[⟨21, .data⟩, ⟨0, .phase⟩, ⟨1, .textOnly .lateStores⟩, ⟨2, .textOnly .lateStores⟩, ⟨3, .phase⟩, ⟨4, .phase⟩, ⟨5, .phase⟩, ⟨6, .phase⟩, ⟨7, .phase⟩, ⟨8, .phase⟩, ⟨9, .phase⟩, ⟨10, .phase⟩, ⟨11, .phase⟩, ⟨12, .textOnly .lateStores⟩, ⟨13, .textOnly .lateStores⟩, ⟨14, .textOnly .lateStoresUnsure⟩, ⟨15, .textOnly .lateStoresUnsure⟩, ⟨16, .phase⟩, ⟨17, .textOnly .lateStoresUnsure⟩, ⟨18, .phase⟩, ⟨19, .textOnly .lateStores⟩, ⟨20, .phase⟩], none⟩ : Go.Oper) := rfl
theorem o23_9_23 : o23_9[23]? = some (⟨none, .store 9 (.tmp 63) (.tmp 52), 0, "h06_plays.go:466", #[⟨22, .data⟩, ⟨11, .data⟩, ⟨20, .chain⟩, ⟨0, .phase⟩, ⟨1, .textOnly .lateStores⟩, ⟨2, .textOnly .lateStores⟩, ⟨3, .phase⟩, ⟨4, .phase⟩, ⟨5, .phase⟩, ⟨6, .phase⟩, ⟨7, .phase⟩, ⟨8, .phase⟩, ⟨9, .phase⟩, ⟨10, .phase⟩, ⟨11, .phase⟩, ⟨12, .textOnly .lateStores⟩, ⟨13, .textOnly .lateStores⟩, ⟨14, .textOnly .lateStoresUnsure⟩, ⟨15, .textOnly .lateStoresUnsure⟩, ⟨16, .phase⟩, ⟨17, .textOnly .lateStoresUnsure⟩, ⟨18, .phase⟩, ⟨19, .textOnly .lateStores⟩, ⟨20, .phase⟩], none⟩ : Go.Oper) := rfl
theorem o23_9_24 : o23_9[24]? = some (⟨some 64, .nilCheck (.tmp 42), 0, "h06_plays.go:466", #[⟨1, .data⟩, ⟨0, .phase⟩, ⟨1, .phase⟩, ⟨2, .textOnly .lateStores⟩, ⟨3, .phase⟩, ⟨4, .phase⟩, ⟨5, .phase⟩, ⟨6, .phase⟩, ⟨7, .phase⟩, ⟨8, .phase⟩, ⟨9, .phase⟩, ⟨10, .phase⟩, ⟨11, .phase⟩, ⟨12, .phase⟩, ⟨13, .phase⟩, ⟨14, .phase⟩, ⟨15, .phase⟩, ⟨16, .phase⟩, ⟨17, .phase⟩, ⟨18, .phase⟩, ⟨19, .textOnly .lateStores⟩, ⟨20, .phase⟩, ⟨21, .phase⟩, ⟨22, .phase⟩, ⟨23, .phase⟩], none⟩ : Go.Oper) := rfl
theorem o23_9_25 : o23_9[25]? = some (⟨some 65, .fieldAddr 78 (.tmp 64) 1, 0, "h06_plays.go:466", #[⟨24, .data⟩, ⟨0, .phase⟩, ⟨1, .phase⟩, ⟨2, .textOnly .lateStores⟩, ⟨3, .phase⟩, ⟨4, .phase⟩, ⟨5, .phase⟩, ⟨6, .phase⟩, ⟨7, .phase⟩, ⟨8, .phase⟩, ⟨9, .phase⟩, ⟨10, .phase⟩, ⟨11, .phase⟩, ⟨12, .phase⟩, ⟨13, .phase⟩, ⟨14, .phase⟩, ⟨15, .phase⟩, ⟨16, .phase⟩, ⟨17, .phase⟩, ⟨18, .phase⟩, ⟨19, .textOnly .lateStores⟩, ⟨20, .phase⟩, ⟨21, .phase⟩, ⟨22, .phase⟩, ⟨23, .phase⟩], none⟩ : Go.Oper) := rfl
theorem o23_9_26 : o23_9[26]? = some (⟨none, .store 9 (.tmp 65) (.tmp 59), 0, "h06_plays.go:466", #[⟨25, .data⟩, ⟨18, .data⟩, ⟨23, .chain⟩, ⟨0, .phase⟩, ⟨1, .phase⟩, ⟨2, .textOnly .lateStores⟩, ⟨3, .phase⟩, ⟨4, .phase⟩, ⟨5, .phase⟩, ⟨6, .phase⟩, ⟨7, .phase⟩, ⟨8, .phase⟩, ⟨9, .phase⟩, ⟨10, .phase⟩, ⟨11, .phase⟩, ⟨12, .phase⟩, ⟨13, .phase⟩, ⟨14, .phase⟩, ⟨15, .phase⟩, ⟨16, .phase⟩, ⟨17, .phase⟩, ⟨18, .phase⟩, ⟨19, .textOnly .lateStores⟩, ⟨20, .phase⟩, ⟨21, .phase⟩, ⟨22, .phase⟩, ⟨23, .phase⟩], none⟩ : Go.Oper) := rfl
theorem o23_9_27 : o23_9[27]? = some (⟨some 66, .nilCheck (.tmp 43), 0, "h06_plays.go:466", #[⟨2, .data⟩, ⟨0, .phase⟩, ⟨1, .phase⟩, ⟨2, .phase⟩, ⟨3, .phase⟩, ⟨4, .phase⟩, ⟨5, .phase⟩, ⟨6, .phase⟩, ⟨7, .phase⟩, ⟨8, .phase⟩, ⟨9, .phase⟩, ⟨10, .phase⟩, ⟨11, .phase⟩, ⟨12, .phase⟩, ⟨13, .phase⟩, ⟨14, .phase⟩, ⟨15, .phase⟩, ⟨16, .phase⟩, ⟨17, .phase⟩, ⟨18, .phase⟩, ⟨19, .phase⟩, ⟨20, .phase⟩, ⟨21, .phase⟩, ⟨22, .phase⟩, ⟨23, .phase⟩, ⟨24, .phase⟩, ⟨25, .phase⟩, ⟨26, .phase⟩], none⟩ : Go.Oper) := rfl
theorem o23_9_28 : o23_9[28]? = some (⟨some 67, .fieldAddr 78 (.tmp 66) 2, 0, "h06_plays.go:466", #[⟨27, .data⟩, ⟨0, .phase⟩, ⟨1, .phase⟩, ⟨2, .phase⟩, ⟨3, .phase⟩, ⟨4, .phase⟩, ⟨5, .phase⟩, ⟨6, .phase⟩, ⟨7, .phase⟩, ⟨8, .phase⟩, ⟨9, .phase⟩, ⟨10, .phase⟩, ⟨11, .phase⟩, ⟨12, .phase⟩, ⟨13, .phase⟩, ⟨14, .phase⟩, ⟨15, .phase⟩, ⟨16, .phase⟩, ⟨17, .phase⟩, ⟨18, .phase⟩, ⟨19, .phase⟩, ⟨20, .phase⟩, ⟨21, .phase⟩, ⟨22, .phase⟩, ⟨23, .phase⟩, ⟨24, .phase⟩, ⟨25, .phase⟩, ⟨26, .phase⟩], none⟩ : Go.Oper) := rfl
theorem o23_9_29 : o23_9[29]? = some (⟨none, .store 3 (.tmp 67) (.tmp 61), 0, "h06_plays.go:466", #[⟨28, .data⟩, ⟨20, .data⟩, ⟨26, .chain⟩, ⟨0, .phase⟩, ⟨1, .phase⟩, ⟨2, .phase⟩, ⟨3, .phase⟩, ⟨4, .phase⟩, ⟨5, .phase⟩, ⟨6, .phase⟩, ⟨7, .phase⟩, ⟨8, .phase⟩, ⟨9, .phase⟩, ⟨10, .phase⟩, ⟨11, .phase⟩, ⟨12, .phase⟩, ⟨13, .phase⟩, ⟨14, .phase⟩, ⟨15, .phase⟩, ⟨16, .phase⟩, ⟨17, .phase⟩, ⟨18, .phase⟩, ⟨19, .phase⟩, ⟨20, .phase⟩, ⟨21, .phase⟩, ⟨22, .phase⟩, ⟨23, .phase⟩, ⟨24, .phase⟩, ⟨25, .phase⟩, ⟨26, .phase⟩], none⟩ : Go.Oper) := rfl
set_option maxRecDepth 100000 in
set_option maxHeartbeats 16000000 in
theorem assetList_calls (B N : Nat) (first : ByteArray) (w : World) (hs : St w B N) (hN : N ≤ 3970000) (hf : first.size ≤ 100) (hD : ∀ w', w.grownBy w' (some B) → DigB w') :
  Calls Tryz.prog 23 #[.pointer (some ⟨B, 0, none⟩), .string first] w (Made B (N + 60) (SomeAs w.heap.size) w) := by
 obtain ⟨i0, hi, hz0, hz1, hz2⟩ := info_parts info_As
 have hBw := hs.lt
 have HD := Lib.hid hD
 clear hD
 go_enter Tryz.func23, Tryz.ntmps23
 go_wp2_with fail
 refine (range_calls B N 0 7 w hs (by omega) (by omega) (by omega) (by omega)).mono ?_
 rintro e w1 ⟨v, ⟨m0, rfl, hm1, hm2⟩, rfl, hs1, hg1⟩
 obtain ⟨m, rfl⟩ : ∃ m : Nat, m0 = (m : Int) := ⟨m0.toNat, by omega⟩
 have hm7 : m ≤ 7 := by omega
 clear hm1 hm2
 go_wp2_with fail
 go_loopw [5, 10] (fun out i wr => ∃ (j : Nat) (xs : List AsD), j ≤ m ∧ i = .int .i64 j ∧ xs.length = j ∧ Hid (∀ x ∈ xs, SmallA x) ∧ OwnAs wr w.heap.size out xs ∧ St wr B (N + 1 + 2 * j) ∧ w.grownBy wr (some B)) (fun _ i _ => m - (intOf i).toNat)
 case atStart => exact ⟨0, [], by omega, rfl, rfl, Lib.hid (by simp), World.ownsRow_nil _ _ _ _, hs1, hg1⟩
 case round =>
  clear hs1 hg1; obtain ⟨j, xs, hj, rfl, hxl, Hxs, hown, hsr, hg⟩ := hrel; by_cases hlt : j < m
  ·have HIt := Lib.hid (itoa_calls (j : Int) wr (by unfold Int64; omega) (HD.out wr hg wr (Below.refl _ _)))
   have hsz := itoaS_size (show Int64 (j : Int) by unfold Int64; omega)
   generalize itoaS (j : Int) = s at HIt hsz
   have hcat : ¬ 9223372036854775807 < first.size + s.size := by omega
   have Hpl := Lib.hid (show (first ++ s).size ≤ 1000 by rw [ByteArray.size_append]; omega)
   have hxl' : xs.length ≤ 7 := by omega
   have Hxl := Lib.hid hxl; clear hsz hxl; go_wp2_with fail
   refine HIt.out.mono ?_; rintro e w2 ⟨rfl, hb2⟩; have hs2 := hsr.below hb2; have hg2 := gb_trans hg (gb_below hb2 (some B)); have hown2 := own_belowG hown hb2; clear HIt hsr hg hown hb2; go_wp2_with fail
   generalize first ++ s = pl at Hpl ⊢
   refine (some_calls B _ w2.heap.size _ [S_df, S_gk, S_gk, S_mf] _ (hs2.alloc _) (by omega) (strs_new w2 [S_df, S_gk, S_gk, S_mf] (by decide)) hs2.lt (by simp)).mono ?_
   rintro e w3 ⟨v, ⟨po, rfl, hpo⟩, rfl, hs3, hg3⟩
   have Hpo := Lib.hid (show po.size ≤ 1000 by
    simp only [List.mem_cons, List.not_mem_nil, or_false] at hpo
    rcases hpo with rfl | rfl | rfl | rfl <;> decide)
   have hown3 := own_keepG (World.ownsRow.alloc hown2 (.cells ([S_df, S_gk, S_gk, S_mf].map Value.string).toArray 9)) hg3 (by omega)
   have hg03 : w.grownBy w3 (some B) := gb_trans hg2 (gb_trans (gb_alloc w2 _ _) hg3)
   clear hpo hown2 hg3 hs2 hg2; go_wp2_with fail
   refine (pick_calls B _ w3.heap.size _ [0, 1, 3, 5, 5, 8, 10, -2] _ (hs3.alloc _) (by omega) (ints_new w3 [0, 1, 3, 5, 5, 8, 10, -2] (by decide)) hs3.lt (by simp)).mono ?_
   rintro e w4 ⟨v, ⟨c, rfl, hc⟩, rfl, hs4, hg4⟩
   have Hc := Lib.hid (show -4611686018427387904 ≤ c ∧ c ≤ 4611686018427387904 by
    simp only [List.mem_cons, List.not_mem_nil, or_false] at hc
    omega)
   have hown4 := own_keepG (World.ownsRow.alloc hown3 (.cells ([0, 1, 3, 5, 5, 8, 10, -2].map (Value.int .i64)).toArray 3)) hg4 (by omega)
   have hg04 : w.grownBy w4 (some B) := gb_trans hg03 (gb_trans (gb_alloc w3 _ _) hg4)
   clear hc hown3 hg4 hs3 hg03; go_wp2_with (at_builtin; refine wpList_append_own _ rfl _ _ 52 rfl w.heap.size 78 i0 (.agg #[.string ⟨#[]⟩, .string ⟨#[]⟩, .int .i64 0]) 3 40 Tryz.underlying52 hi hz0 hz1 hz2 rfl (by decide) _ _ _ rfl (World.ownsRow.alloc hown4 _) ⟨w4.heap.size, 0, none⟩ 1 1 [.string pl, .string po, .int .i64 c] rfl rfl ?c1 ?c2 ?c3 ?c4 ?c5 ?_)
   case c1 => exact cells_newG _ _ _
   case c2 => simp [Value.oneCell']
   case c3 => unfold maxLen; omega
   case c4 => omega
   case c5 => have := hg04.size; simp; omega
   intro v' w5 hown5 hgrow _; go_wp2_with fail
   go_roundw
   case rel =>
    refine ⟨j + 1, xs ++ [⟨pl, po, c⟩], by omega, by go_num, by rw [List.length_append, Hxl.out]; rfl, Lib.hid fun x hx => ?_, ?_, ?_, ?_⟩
    ·rcases List.mem_append.1 hx with h | h
     ·exact Hxs.out x h
     ·rw [List.mem_singleton.1 h]; exact ⟨Hpl.out, Hpo.out, Hc.out⟩
    ·unfold OwnAs
     have e : ((xs ++ [(⟨pl, po, c⟩ : AsD)]).map asRow).flatten = (xs.map asRow).flatten ++ [.string pl, .string po, .int .i64 c] := by simp [asRow]
     rw [e, List.length_append]; exact hown5
    ·exact ((hs4.alloc _).grown hgrow fun r hr => by have := (own_block hown4 r hr).1; omega).mono (by omega)
    ·exact gb_then (gb_trans hg04 (gb_alloc w4 _ _)) hgrow fun r hr => (own_block hown4 r hr).1
   case measure => simp [intOf]; omega
  ·obtain rfl : j = m := by omega
   rename_i uo _
   clear hi hz0 hz1 hz2 HD; rcases hown.2 with ⟨rfl, hnil⟩ | ⟨g, cap, cur, rfl, hgb, hgc, hle, _⟩
   ·have : xs = [] := List.eq_nil_of_length_eq_zero hnil
    subst this; simp only [List.length_nil] at hxl
    subst hxl; clear hown hnil; go_wp2_with fail
    go_ret
    exact ⟨_, ⟨[], ⟨by simp, by simp, .inl ⟨rfl, rfl⟩⟩, by simp, Hxs.out⟩, rfl, hsr.mono (by omega), hg⟩
   ·obtain ⟨hat, _⟩ := RowsAt.of_owns (sz := 3) (rows := xs.map asRow) (by simpa [OwnAs] using hown) (as_each xs)
    have hne : g ≠ B := by omega
    rw [hxl] at hle ⊢
    have Hm := Lib.hid hxl; have Hat := Lib.hid hat; have Hxs' := Hxs
    clear hown hat hgc hxl; by_cases hz : j = 0
    ·subst hz
     have : xs = [] := List.eq_nil_of_length_eq_zero Hm.out
     subst this; go_wp2_with fail
     go_ret
     refine ⟨_, ⟨[], ?_, by simp, Hxs.out⟩, rfl, hsr.mono (by omega), hg⟩
     have h := Hat.out.rows (lo := w.heap.size) (cap := cap) (by simp) hgb (by simp)
     simpa [Ass] using h
    ·have hpos : 0 < j := by omega
     clear hz; go_wp2_with fail
     refine (flip_calls B _ 15 wr hsr (by omega) (by omega) (by omega)).mono ?_
     rintro e w2 ⟨v, ⟨b, rfl⟩, rfl, hs2, hg2⟩; cases b
     ·go_wp2_with fail
      go_ret
      refine ⟨_, ⟨xs, ?_, by rw [Hm.out]; omega, Hxs.out⟩, rfl, hs2.mono (by omega), gb_trans hg hg2⟩
      have h := (Hat.out.lift (hg2.block g Hat.out.lt (by intro e; cases e; exact hne rfl))).rows (lo := w.heap.size) (cap := cap) (by simp; have := Hm.out; omega) hgb (by simp; have := Hm.out; omega)
      rw [List.length_map, Hm.out] at h
      exact h
     ·go_wp2_with fail
      refine (next_calls B _ j w2 hs2 (by omega) (by omega) (by omega)).mono ?_
      rintro e w3 ⟨v, ⟨i, rfl, hi⟩, rfl, hs3, hg3⟩; have hX : AW w B g j i _ w3 := ⟨xs, xs[i]'(by have := Hm.out; omega), Hm.out, List.getElem?_eq_getElem _, Hxs.out, Hat.out.lift ((hg3.block g (by have := Hat.out.lt; have := hg2.size; omega) (by intro e; cases e; exact hne rfl)).trans (hg2.block g Hat.out.lt (by intro e; cases e; exact hne rfl))), hs3, gb_trans hg (gb_trans hg2 hg3)⟩
      have him : i < j := by omega
      clear hs2 hs3 hsr hg hg2 hg3 Hat Hxs Hxs' Hm hi; have hcat : ¬ 9223372036854775807 < first.size + 1 := by omega
      have Hpl := Lib.hid (show (first ++ (⟨#[48]⟩ : ByteArray)).size ≤ 1000 by rw [ByteArray.size_append]; show first.size + 1 ≤ 1000; omega)
      go_upto_region 9 with fail
      generalize hF0 : first ++ (⟨#[48]⟩ : ByteArray) = F0 at Hpl
      have HF0 := Lib.hid hF0; clear hF0; obtain ⟨r, hr, c0, c1, -, cf⟩ := hX.cells; have hC : w3.drew.cell? ⟨g, i * 3, none⟩ = some (.string r.player) ∧ w3.drew.cell? ⟨g, i * 3 + 1, none⟩ = some (.string r.pos) := ⟨c0, c1⟩
      have Hrk := Lib.hid hr.1; have Hrt := Lib.hid hr.2.1; replace hX := hX.drew; clear c0 c1 cf hr; show Code.wp _ (Code.region 9 o23_9 true) _ _ _
      refine regionC_start 30 (fun w' => w'.cell? ⟨g, i * 3, none⟩ = some (.string r.player) ∧ w'.cell? ⟨g, i * 3 + 1, none⟩ = some (.string r.pos)) (fun j => [7, 10, 11, 16, 17, 18, 20].contains j) (by kernel_rfl) rfl ?_
      generalize w3.drew = W4 at hX hC ⊢
      refine takeC 0 41 (v := ?_) o23_9_0 rfl (by kernel_rfl) (by kernel_rfl) (by kernel_rfl) (by rfl) (fun _ _ _ h => h) (by rfl) ?y0_1 ?_
      case y0_1 => intro w; go_simp; try with_reducible rfl
      simp only [sE0, sE1]; refine takeC 1 42 (v := ?_) o23_9_1 rfl (by kernel_rfl) (by kernel_rfl) (by kernel_rfl) (by rfl) (fun _ _ _ h => h) (by rfl) ?y1_2 ?_
      case y1_2 => intro w; go_simp; try with_reducible rfl
      simp only [sE0, sE1]; refine takeC 2 43 (v := ?_) o23_9_2 rfl (by kernel_rfl) (by kernel_rfl) (by kernel_rfl) (by rfl) (fun _ _ _ h => h) (by rfl) ?y2_3 ?_
      case y2_3 => intro w; go_simp; try with_reducible rfl
      simp only [sE0, sE1]; refine takeC 3 44 (v := ?_) o23_9_3 rfl (by kernel_rfl) (by kernel_rfl) (by kernel_rfl) (by rfl) (fun _ _ _ h => h) (by rfl) ?y3_4 ?_
      case y3_4 => intro w; go_simp; try with_reducible rfl
      simp only [sE0, sE1]; refine takeC 4 45 (v := ?_) o23_9_4 rfl (by kernel_rfl) (by kernel_rfl) (by kernel_rfl) (by rfl) (fun _ _ _ h => h) (by rfl) ?y4_5 ?_
      case y4_5 => intro w; go_simp; try with_reducible rfl
      simp only [sE0, sE1]; refine takeC 5 46 (v := ?_) o23_9_5 rfl (by kernel_rfl) (by kernel_rfl) (by kernel_rfl) (by rfl) (fun _ _ _ h => h) (by rfl) ?y5_6 ?_
      case y5_6 => intro w; go_simp; try with_reducible rfl
      simp only [sE0, sE1]; refine takeC 6 47 (v := ?_) o23_9_6 rfl (by kernel_rfl) (by kernel_rfl) (by kernel_rfl) (by rfl) (fun _ _ _ h => h) (by rfl) ?y6_7 ?_
      case y6_7 => intro w; go_simp; try with_reducible rfl
      simp only [sE0, sE1]; refine takeC 8 49 (v := ?_) o23_9_8 rfl (by kernel_rfl) (by kernel_rfl) (by kernel_rfl) (by rfl) (fun _ _ _ h => h) (by rfl) ?y8_8 ?_
      case y8_8 => intro w; go_simp; try with_reducible rfl
      simp only [sE0, sE1]; refine takeC 9 50 (v := ?_) o23_9_9 rfl (by kernel_rfl) (by kernel_rfl) (by kernel_rfl) (by rfl) (fun _ _ _ h => h) (by rfl) ?y9_9 ?_
      case y9_9 => intro w; go_simp; try with_reducible rfl
      simp only [sE0, sE1]; refine takeC 12 53 (v := ?_) o23_9_12 rfl (by kernel_rfl) (by kernel_rfl) (by kernel_rfl) (by rfl) (fun _ _ _ h => h) (by rfl) ?y12_10 ?_
      case y12_10 => intro w; go_simp; try with_reducible rfl
      simp only [sE0, sE1]; refine takeC 13 54 (v := ?_) o23_9_13 rfl (by kernel_rfl) (by kernel_rfl) (by kernel_rfl) (by rfl) (fun _ _ _ h => h) (by rfl) ?y13_11 ?_
      case y13_11 => intro w; go_simp; try with_reducible rfl
      simp only [sE0, sE1]; refine takeC 14 55 (v := ?_) o23_9_14 rfl (by kernel_rfl) (by kernel_rfl) (by kernel_rfl) (by rfl) (fun _ _ _ h => h) (by rfl) ?y14_12 ?_
      case y14_12 => intro w; go_simp; try with_reducible rfl
      simp only [sE0, sE1]; refine takeC 15 56 (v := ?_) o23_9_15 rfl (by kernel_rfl) (by kernel_rfl) (by kernel_rfl) (by rfl) (fun _ _ _ h => h) (by rfl) ?y15_13 ?_
      case y15_13 => intro w; go_simp; try with_reducible rfl
      simp only [sE0, sE1]; refine takeC 19 60 (v := ?_) o23_9_19 rfl (by kernel_rfl) (by kernel_rfl) (by kernel_rfl) (by rfl) (fun _ _ _ h => h) (by rfl) ?y19_14 ?_
      case y19_14 => intro w; go_simp; try with_reducible rfl
      simp only [sE0, sE1]; refine loadC 7 48 (v := ?_) o23_9_7 rfl (by kernel_rfl) (by kernel_rfl) (by kernel_rfl) (by kernel_rfl) (fun _ _ _ h => h) (by rfl) ?y7_15 (by exact hC) ?_
      case y7_15 => intro w h; (try dsimp only at h); go_simp; try with_reducible rfl
      simp only [sE0, sE1]; refine loadC 16 57 (v := ?_) o23_9_16 rfl (by kernel_rfl) (by kernel_rfl) (by kernel_rfl) (by kernel_rfl) (fun _ _ _ h => h) (by rfl) ?y16_16 (by exact hC) ?_
      case y16_16 => intro w h; (try dsimp only at h); go_simp; try with_reducible rfl
      simp only [sE0, sE1]; refine readyC (rs := [10, 17]) (by kernel_rfl) (by simp) (each_cons (runC o23_9_10 (by rfl) (fun K hK => ?_)) (each_cons (runC o23_9_17 (by rfl) (fun K hK => ?_)) each_nil))
      ·go_simp
       obtain ⟨v10, e10, hA10, hB10⟩ := aw_vals hX [r.player, T_none, F0] (by simp)
       simp only [List.length_cons, List.length_nil, Nat.zero_add, Nat.reduceAdd] at e10
       try simp only [World.size_alloc] at e10
       rw [HF0.out]; rw [e10]; clear e10; try replace hA17 := hA17.below (below_alloc _ (.cells ([r.player, T_none, F0].map Value.string).toArray 9))
       replace hX := hX.alloc (.cells ([r.player, T_none, F0].map Value.string).toArray 9); replace hC := And.intro (below_cell (below_alloc _ (.cells ([r.player, T_none, F0].map Value.string).toArray 9)) hC.1) (below_cell (below_alloc _ (.cells ([r.player, T_none, F0].map Value.string).toArray 9)) hC.2); go_wp2_with fail
       refine hK.out _ _ (fun _ => ?_) ?_
       ·(exact hC)
       clear hK K; try simp only [Act.put, sEt, sE0, sE1]
       refine readyC (rs := [11, 17]) (by kernel_rfl) (by simp) (each_cons (runC o23_9_11 (by rfl) (fun K hK => ?_)) (each_cons (runC o23_9_17 (by rfl) (fun K hK => ?_)) each_nil))
       ·go_simp
        refine (some_calls B _ _ _ [r.player, T_none, F0] _ hX.st (by omega) hA10 hB10 (by simp)).mono ?_
        rintro e w' ⟨v, ⟨xk, rfl, hxk⟩, rfl, hs', hg'⟩; have Hxk := Lib.hid (show xk.size ≤ 1000 from by simp only [List.mem_cons, List.not_mem_nil, or_false] at hxk; rcases hxk with rfl | rfl | rfl; (· exact Hrk.out); (· exact by decide); (· exact Hpl.out))
        try replace hA17 := hA17.other hg' hB17
        replace hC := gb_cells2A hg' hne hC; replace hX := hX.step hs' hg' hne; clear hs' hg' hxk hA10 hB10; go_wp2_with fail
        refine hK.out _ _ (fun _ => ?_) ?_
        ·(exact hC)
        clear hK K; try simp only [Act.put, sEt, sE0, sE1]
        refine readyC (rs := [17]) (by kernel_rfl) (by simp) (each_cons (runC o23_9_17 (by rfl) (fun K hK => ?_)) each_nil)
        go_simp; obtain ⟨v17, e17, hA17, hB17⟩ := aw_vals hX [r.pos, T_none] (by simp)
        simp only [List.length_cons, List.length_nil, Nat.zero_add, Nat.reduceAdd] at e17
        try simp only [World.size_alloc] at e17
        rw [e17]; clear e17; try replace hA10 := hA10.below (below_alloc _ (.cells ([r.pos, T_none].map Value.string).toArray 9))
        replace hX := hX.alloc (.cells ([r.pos, T_none].map Value.string).toArray 9); replace hC := And.intro (below_cell (below_alloc _ (.cells ([r.pos, T_none].map Value.string).toArray 9)) hC.1) (below_cell (below_alloc _ (.cells ([r.pos, T_none].map Value.string).toArray 9)) hC.2); go_wp2_with fail
        refine hK.out _ _ (fun _ => ?_) ?_
        ·(exact hC)
        clear hK K; try simp only [Act.put, sEt, sE0, sE1]
        refine readyC (rs := [18]) (by kernel_rfl) (by simp) (each_cons (runC o23_9_18 (by rfl) (fun K hK => ?_)) each_nil)
        go_simp; refine (some_calls B _ _ _ [r.pos, T_none] _ hX.st (by omega) hA17 hB17 (by simp)).mono ?_
        rintro e w' ⟨v, ⟨xs, rfl, hxs⟩, rfl, hs', hg'⟩; have Hxs := Lib.hid (show xs.size ≤ 1000 from by simp only [List.mem_cons, List.not_mem_nil, or_false] at hxs; rcases hxs with rfl | rfl; (· exact Hrt.out); (· exact by decide))
        try replace hA10 := hA10.other hg' hB10
        replace hC := gb_cells2A hg' hne hC; replace hX := hX.step hs' hg' hne; clear hs' hg' hxs hA17 hB17; go_wp2_with fail
        refine hK.out _ _ (fun _ => ?_) ?_
        ·(exact hC)
        clear hK K; try simp only [Act.put, sEt, sE0, sE1]
        refine readyC (rs := [20]) (by kernel_rfl) (by simp) (each_cons (runC o23_9_20 (by rfl) (fun K hK => ?_)) each_nil)
        go_simp; refine (odd_calls B _ (-1000000) 1000000 _ hX.st (by omega) (by omega) (by omega) (by omega)).mono ?_
        rintro e w' ⟨v, ⟨xv, rfl, hxv1, hxv2⟩, rfl, hs', hg'⟩; have Hxv := Lib.hid (show -4611686018427387904 ≤ xv ∧ xv ≤ 4611686018427387904 by omega)
        try replace hA10 := hA10.other hg' hB10
        try replace hA17 := hA17.other hg' hB17
        replace hC := gb_cells2A hg' hne hC; replace hX := hX.step hs' hg' hne; clear hs' hg' hxv1 hxv2; go_wp2_with fail
        refine hK.out _ _ (fun _ => ?_) ?_
        ·(exact hC)
        clear hK K; try simp only [Act.put, sEt, sE0, sE1]
        refine takeC 21 62 (v := ?_) o23_9_21 rfl (by kernel_rfl) (by kernel_rfl) (by kernel_rfl) (by rfl) (fun _ _ _ h => h) (by rfl) ?y21_17 ?_
        case y21_17 => intro w; go_simp; try with_reducible rfl
        simp only [sE0, sE1]; refine takeC 22 63 (v := ?_) o23_9_22 rfl (by kernel_rfl) (by kernel_rfl) (by kernel_rfl) (by rfl) (fun _ _ _ h => h) (by rfl) ?y22_18 ?_
        case y22_18 => intro w; go_simp; try with_reducible rfl
        simp only [sE0, sE1]; refine readyC (rs := [23]) (by kernel_rfl) (by simp) (each_cons (runC o23_9_23 (by rfl) (fun K hK => ?_)) each_nil)
        obtain ⟨r2, -, q0, q1, q2, qf⟩ := hX.cells; go_simp; replace hX := hX.player hBw hgb xk Hxk.out; clear q0 q1 q2 qf; refine hK.out _ _ (fun h => absurd h (by decide)) ?_
        clear hK K; try simp only [sEt, sE0, sE1]
        refine takeC 24 64 (v := ?_) o23_9_24 rfl (by kernel_rfl) (by kernel_rfl) (by kernel_rfl) (by rfl) (fun _ _ _ h => h) (by rfl) ?y24_19 ?_
        case y24_19 => intro w; go_simp; try with_reducible rfl
        simp only [sE0, sE1]; refine takeC 25 65 (v := ?_) o23_9_25 rfl (by kernel_rfl) (by kernel_rfl) (by kernel_rfl) (by rfl) (fun _ _ _ h => h) (by rfl) ?y25_20 ?_
        case y25_20 => intro w; go_simp; try with_reducible rfl
        simp only [sE0, sE1]; refine readyC (rs := [26]) (by kernel_rfl) (by simp) (each_cons (runC o23_9_26 (by rfl) (fun K hK => ?_)) each_nil)
        obtain ⟨r2, -, q0, q1, q2, qf⟩ := hX.cells; go_simp; replace hX := hX.pos hBw hgb xs Hxs.out; clear q0 q1 q2 qf; refine hK.out _ _ (fun h => absurd h (by decide)) ?_
        clear hK K; try simp only [sEt, sE0, sE1]
        refine takeC 27 66 (v := ?_) o23_9_27 rfl (by kernel_rfl) (by kernel_rfl) (by kernel_rfl) (by rfl) (fun _ _ _ h => h) (by rfl) ?y27_21 ?_
        case y27_21 => intro w; go_simp; try with_reducible rfl
        simp only [sE0, sE1]; refine takeC 28 67 (v := ?_) o23_9_28 rfl (by kernel_rfl) (by kernel_rfl) (by kernel_rfl) (by rfl) (fun _ _ _ h => h) (by rfl) ?y28_22 ?_
        case y28_22 => intro w; go_simp; try with_reducible rfl
        simp only [sE0, sE1]; refine readyC (rs := [29]) (by kernel_rfl) (by simp) (each_cons (runC o23_9_29 (by rfl) (fun K hK => ?_)) each_nil)
        obtain ⟨r2, -, q0, q1, q2, qf⟩ := hX.cells; go_simp; replace hX := hX.value hBw hgb xv Hxv.out; clear q0 q1 q2 qf; refine hK.out _ _ (fun h => absurd h (by decide)) ?_
        clear hK K; try simp only [sEt, sE0, sE1]
        refine doneC (by kernel_rfl) ?_ _
        go_wp2_with fail
        go_ret
        exact ⟨_, hX.made (by omega) hle hgb, rfl, hX.st.mono (by omega), hX.gb⟩
       ·go_simp
        obtain ⟨v17, e17, hA17, hB17⟩ := aw_vals hX [r.pos, T_none] (by simp)
        simp only [List.length_cons, List.length_nil, Nat.zero_add, Nat.reduceAdd] at e17
        try simp only [World.size_alloc] at e17
        rw [e17]; clear e17; try replace hA10 := hA10.below (below_alloc _ (.cells ([r.pos, T_none].map Value.string).toArray 9))
        replace hX := hX.alloc (.cells ([r.pos, T_none].map Value.string).toArray 9); replace hC := And.intro (below_cell (below_alloc _ (.cells ([r.pos, T_none].map Value.string).toArray 9)) hC.1) (below_cell (below_alloc _ (.cells ([r.pos, T_none].map Value.string).toArray 9)) hC.2); go_wp2_with fail
        refine hK.out _ _ (fun _ => ?_) ?_
        ·(exact hC)
        clear hK K; try simp only [Act.put, sEt, sE0, sE1]
        refine readyC (rs := [11]) (by kernel_rfl) (by simp) (each_cons (runC o23_9_11 (by rfl) (fun K hK => ?_)) each_nil)
        go_simp; refine (some_calls B _ _ _ [r.player, T_none, F0] _ hX.st (by omega) hA10 hB10 (by simp)).mono ?_
        rintro e w' ⟨v, ⟨xk, rfl, hxk⟩, rfl, hs', hg'⟩; have Hxk := Lib.hid (show xk.size ≤ 1000 from by simp only [List.mem_cons, List.not_mem_nil, or_false] at hxk; rcases hxk with rfl | rfl | rfl; (· exact Hrk.out); (· exact by decide); (· exact Hpl.out))
        try replace hA17 := hA17.other hg' hB17
        replace hC := gb_cells2A hg' hne hC; replace hX := hX.step hs' hg' hne; clear hs' hg' hxk hA10 hB10; go_wp2_with fail
        refine hK.out _ _ (fun _ => ?_) ?_
        ·(exact hC)
        clear hK K; try simp only [Act.put, sEt, sE0, sE1]
        refine readyC (rs := [18]) (by kernel_rfl) (by simp) (each_cons (runC o23_9_18 (by rfl) (fun K hK => ?_)) each_nil)
        go_simp; refine (some_calls B _ _ _ [r.pos, T_none] _ hX.st (by omega) hA17 hB17 (by simp)).mono ?_
        rintro e w' ⟨v, ⟨xs, rfl, hxs⟩, rfl, hs', hg'⟩; have Hxs := Lib.hid (show xs.size ≤ 1000 from by simp only [List.mem_cons, List.not_mem_nil, or_false] at hxs; rcases hxs with rfl | rfl; (· exact Hrt.out); (· exact by decide))
        try replace hA10 := hA10.other hg' hB10
        replace hC := gb_cells2A hg' hne hC; replace hX := hX.step hs' hg' hne; clear hs' hg' hxs hA17 hB17; go_wp2_with fail
        refine hK.out _ _ (fun _ => ?_) ?_
        ·(exact hC)
        clear hK K; try simp only [Act.put, sEt, sE0, sE1]
        refine readyC (rs := [20]) (by kernel_rfl) (by simp) (each_cons (runC o23_9_20 (by rfl) (fun K hK => ?_)) each_nil)
        go_simp; refine (odd_calls B _ (-1000000) 1000000 _ hX.st (by omega) (by omega) (by omega) (by omega)).mono ?_
        rintro e w' ⟨v, ⟨xv, rfl, hxv1, hxv2⟩, rfl, hs', hg'⟩; have Hxv := Lib.hid (show -4611686018427387904 ≤ xv ∧ xv ≤ 4611686018427387904 by omega)
        try replace hA10 := hA10.other hg' hB10
        try replace hA17 := hA17.other hg' hB17
        replace hC := gb_cells2A hg' hne hC; replace hX := hX.step hs' hg' hne; clear hs' hg' hxv1 hxv2; go_wp2_with fail
        refine hK.out _ _ (fun _ => ?_) ?_
        ·(exact hC)
        clear hK K; try simp only [Act.put, sEt, sE0, sE1]
        refine takeC 21 62 (v := ?_) o23_9_21 rfl (by kernel_rfl) (by kernel_rfl) (by kernel_rfl) (by rfl) (fun _ _ _ h => h) (by rfl) ?y21_23 ?_
        case y21_23 => intro w; go_simp; try with_reducible rfl
        simp only [sE0, sE1]; refine takeC 22 63 (v := ?_) o23_9_22 rfl (by kernel_rfl) (by kernel_rfl) (by kernel_rfl) (by rfl) (fun _ _ _ h => h) (by rfl) ?y22_24 ?_
        case y22_24 => intro w; go_simp; try with_reducible rfl
        simp only [sE0, sE1]; refine readyC (rs := [23]) (by kernel_rfl) (by simp) (each_cons (runC o23_9_23 (by rfl) (fun K hK => ?_)) each_nil)
        obtain ⟨r2, -, q0, q1, q2, qf⟩ := hX.cells; go_simp; replace hX := hX.player hBw hgb xk Hxk.out; clear q0 q1 q2 qf; refine hK.out _ _ (fun h => absurd h (by decide)) ?_
        clear hK K; try simp only [sEt, sE0, sE1]
        refine takeC 24 64 (v := ?_) o23_9_24 rfl (by kernel_rfl) (by kernel_rfl) (by kernel_rfl) (by rfl) (fun _ _ _ h => h) (by rfl) ?y24_25 ?_
        case y24_25 => intro w; go_simp; try with_reducible rfl
        simp only [sE0, sE1]; refine takeC 25 65 (v := ?_) o23_9_25 rfl (by kernel_rfl) (by kernel_rfl) (by kernel_rfl) (by rfl) (fun _ _ _ h => h) (by rfl) ?y25_26 ?_
        case y25_26 => intro w; go_simp; try with_reducible rfl
        simp only [sE0, sE1]; refine readyC (rs := [26]) (by kernel_rfl) (by simp) (each_cons (runC o23_9_26 (by rfl) (fun K hK => ?_)) each_nil)
        obtain ⟨r2, -, q0, q1, q2, qf⟩ := hX.cells; go_simp; replace hX := hX.pos hBw hgb xs Hxs.out; clear q0 q1 q2 qf; refine hK.out _ _ (fun h => absurd h (by decide)) ?_
        clear hK K; try simp only [sEt, sE0, sE1]
        refine takeC 27 66 (v := ?_) o23_9_27 rfl (by kernel_rfl) (by kernel_rfl) (by kernel_rfl) (by rfl) (fun _ _ _ h => h) (by rfl) ?y27_27 ?_
        case y27_27 => intro w; go_simp; try with_reducible rfl
        simp only [sE0, sE1]; refine takeC 28 67 (v := ?_) o23_9_28 rfl (by kernel_rfl) (by kernel_rfl) (by kernel_rfl) (by rfl) (fun _ _ _ h => h) (by rfl) ?y28_28 ?_
        case y28_28 => intro w; go_simp; try with_reducible rfl
        simp only [sE0, sE1]; refine readyC (rs := [29]) (by kernel_rfl) (by simp) (each_cons (runC o23_9_29 (by rfl) (fun K hK => ?_)) each_nil)
        obtain ⟨r2, -, q0, q1, q2, qf⟩ := hX.cells; go_simp; replace hX := hX.value hBw hgb xv Hxv.out; clear q0 q1 q2 qf; refine hK.out _ _ (fun h => absurd h (by decide)) ?_
        clear hK K; try simp only [sEt, sE0, sE1]
        refine doneC (by kernel_rfl) ?_ _
        go_wp2_with fail
        go_ret
        exact ⟨_, hX.made (by omega) hle hgb, rfl, hX.st.mono (by omega), hX.gb⟩
      ·go_simp
       obtain ⟨v17, e17, hA17, hB17⟩ := aw_vals hX [r.pos, T_none] (by simp)
       simp only [List.length_cons, List.length_nil, Nat.zero_add, Nat.reduceAdd] at e17
       try simp only [World.size_alloc] at e17
       rw [e17]; clear e17; try replace hA10 := hA10.below (below_alloc _ (.cells ([r.pos, T_none].map Value.string).toArray 9))
       replace hX := hX.alloc (.cells ([r.pos, T_none].map Value.string).toArray 9); replace hC := And.intro (below_cell (below_alloc _ (.cells ([r.pos, T_none].map Value.string).toArray 9)) hC.1) (below_cell (below_alloc _ (.cells ([r.pos, T_none].map Value.string).toArray 9)) hC.2); go_wp2_with fail
       refine hK.out _ _ (fun _ => ?_) ?_
       ·(exact hC)
       clear hK K; try simp only [Act.put, sEt, sE0, sE1]
       refine readyC (rs := [10]) (by kernel_rfl) (by simp) (each_cons (runC o23_9_10 (by rfl) (fun K hK => ?_)) each_nil)
       go_simp; obtain ⟨v10, e10, hA10, hB10⟩ := aw_vals hX [r.player, T_none, F0] (by simp)
       simp only [List.length_cons, List.length_nil, Nat.zero_add, Nat.reduceAdd] at e10
       try simp only [World.size_alloc] at e10
       rw [HF0.out]; rw [e10]; clear e10; try replace hA17 := hA17.below (below_alloc _ (.cells ([r.player, T_none, F0].map Value.string).toArray 9))
       replace hX := hX.alloc (.cells ([r.player, T_none, F0].map Value.string).toArray 9); replace hC := And.intro (below_cell (below_alloc _ (.cells ([r.player, T_none, F0].map Value.string).toArray 9)) hC.1) (below_cell (below_alloc _ (.cells ([r.player, T_none, F0].map Value.string).toArray 9)) hC.2); go_wp2_with fail
       refine hK.out _ _ (fun _ => ?_) ?_
       ·(exact hC)
       clear hK K; try simp only [Act.put, sEt, sE0, sE1]
       refine readyC (rs := [11]) (by kernel_rfl) (by simp) (each_cons (runC o23_9_11 (by rfl) (fun K hK => ?_)) each_nil)
       go_simp; refine (some_calls B _ _ _ [r.player, T_none, F0] _ hX.st (by omega) hA10 hB10 (by simp)).mono ?_
       rintro e w' ⟨v, ⟨xk, rfl, hxk⟩, rfl, hs', hg'⟩; have Hxk := Lib.hid (show xk.size ≤ 1000 from by simp only [List.mem_cons, List.not_mem_nil, or_false] at hxk; rcases hxk with rfl | rfl | rfl; (· exact Hrk.out); (· exact by decide); (· exact Hpl.out))
       try replace hA17 := hA17.other hg' hB17
       replace hC := gb_cells2A hg' hne hC; replace hX := hX.step hs' hg' hne; clear hs' hg' hxk hA10 hB10; go_wp2_with fail
       refine hK.out _ _ (fun _ => ?_) ?_
       ·(exact hC)
       clear hK K; try simp only [Act.put, sEt, sE0, sE1]
       refine readyC (rs := [18]) (by kernel_rfl) (by simp) (each_cons (runC o23_9_18 (by rfl) (fun K hK => ?_)) each_nil)
       go_simp; refine (some_calls B _ _ _ [r.pos, T_none] _ hX.st (by omega) hA17 hB17 (by simp)).mono ?_
       rintro e w' ⟨v, ⟨xs, rfl, hxs⟩, rfl, hs', hg'⟩; have Hxs := Lib.hid (show xs.size ≤ 1000 from by simp only [List.mem_cons, List.not_mem_nil, or_false] at hxs; rcases hxs with rfl | rfl; (· exact Hrt.out); (· exact by decide))
       try replace hA10 := hA10.other hg' hB10
       replace hC := gb_cells2A hg' hne hC; replace hX := hX.step hs' hg' hne; clear hs' hg' hxs hA17 hB17; go_wp2_with fail
       refine hK.out _ _ (fun _ => ?_) ?_
       ·(exact hC)
       clear hK K; try simp only [Act.put, sEt, sE0, sE1]
       refine readyC (rs := [20]) (by kernel_rfl) (by simp) (each_cons (runC o23_9_20 (by rfl) (fun K hK => ?_)) each_nil)
       go_simp; refine (odd_calls B _ (-1000000) 1000000 _ hX.st (by omega) (by omega) (by omega) (by omega)).mono ?_
       rintro e w' ⟨v, ⟨xv, rfl, hxv1, hxv2⟩, rfl, hs', hg'⟩; have Hxv := Lib.hid (show -4611686018427387904 ≤ xv ∧ xv ≤ 4611686018427387904 by omega)
       try replace hA10 := hA10.other hg' hB10
       try replace hA17 := hA17.other hg' hB17
       replace hC := gb_cells2A hg' hne hC; replace hX := hX.step hs' hg' hne; clear hs' hg' hxv1 hxv2; go_wp2_with fail
       refine hK.out _ _ (fun _ => ?_) ?_
       ·(exact hC)
       clear hK K; try simp only [Act.put, sEt, sE0, sE1]
       refine takeC 21 62 (v := ?_) o23_9_21 rfl (by kernel_rfl) (by kernel_rfl) (by kernel_rfl) (by rfl) (fun _ _ _ h => h) (by rfl) ?y21_29 ?_
       case y21_29 => intro w; go_simp; try with_reducible rfl
       simp only [sE0, sE1]; refine takeC 22 63 (v := ?_) o23_9_22 rfl (by kernel_rfl) (by kernel_rfl) (by kernel_rfl) (by rfl) (fun _ _ _ h => h) (by rfl) ?y22_30 ?_
       case y22_30 => intro w; go_simp; try with_reducible rfl
       simp only [sE0, sE1]; refine readyC (rs := [23]) (by kernel_rfl) (by simp) (each_cons (runC o23_9_23 (by rfl) (fun K hK => ?_)) each_nil)
       obtain ⟨r2, -, q0, q1, q2, qf⟩ := hX.cells; go_simp; replace hX := hX.player hBw hgb xk Hxk.out; clear q0 q1 q2 qf; refine hK.out _ _ (fun h => absurd h (by decide)) ?_
       clear hK K; try simp only [sEt, sE0, sE1]
       refine takeC 24 64 (v := ?_) o23_9_24 rfl (by kernel_rfl) (by kernel_rfl) (by kernel_rfl) (by rfl) (fun _ _ _ h => h) (by rfl) ?y24_31 ?_
       case y24_31 => intro w; go_simp; try with_reducible rfl
       simp only [sE0, sE1]; refine takeC 25 65 (v := ?_) o23_9_25 rfl (by kernel_rfl) (by kernel_rfl) (by kernel_rfl) (by rfl) (fun _ _ _ h => h) (by rfl) ?y25_32 ?_
       case y25_32 => intro w; go_simp; try with_reducible rfl
       simp only [sE0, sE1]; refine readyC (rs := [26]) (by kernel_rfl) (by simp) (each_cons (runC o23_9_26 (by rfl) (fun K hK => ?_)) each_nil)
       obtain ⟨r2, -, q0, q1, q2, qf⟩ := hX.cells; go_simp; replace hX := hX.pos hBw hgb xs Hxs.out; clear q0 q1 q2 qf; refine hK.out _ _ (fun h => absurd h (by decide)) ?_
       clear hK K; try simp only [sEt, sE0, sE1]
       refine takeC 27 66 (v := ?_) o23_9_27 rfl (by kernel_rfl) (by kernel_rfl) (by kernel_rfl) (by rfl) (fun _ _ _ h => h) (by rfl) ?y27_33 ?_
       case y27_33 => intro w; go_simp; try with_reducible rfl
       simp only [sE0, sE1]; refine takeC 28 67 (v := ?_) o23_9_28 rfl (by kernel_rfl) (by kernel_rfl) (by kernel_rfl) (by rfl) (fun _ _ _ h => h) (by rfl) ?y28_34 ?_
       case y28_34 => intro w; go_simp; try with_reducible rfl
       simp only [sE0, sE1]; refine readyC (rs := [29]) (by kernel_rfl) (by simp) (each_cons (runC o23_9_29 (by rfl) (fun K hK => ?_)) each_nil)
       obtain ⟨r2, -, q0, q1, q2, qf⟩ := hX.cells; go_simp; replace hX := hX.value hBw hgb xv Hxv.out; clear q0 q1 q2 qf; refine hK.out _ _ (fun h => absurd h (by decide)) ?_
       clear hK K; try simp only [sEt, sE0, sE1]
       refine doneC (by kernel_rfl) ?_ _
       go_wp2_with fail
       go_ret
       exact ⟨_, hX.made (by omega) hle hgb, rfl, hX.st.mono (by omega), hX.gb⟩
end Go.Proofs.YtddnnjblpgfjeaaGreatDoor
/- How places are drawn. -/
namespace Go.Proofs.YtddnnjblpgfjeaaGreatDoor
open Go.RowKit

def S_xx : ByteArray := ⟨#[120, 120]⟩
def plKeys : Obj := .cells #[.string S_df, .string S_gk, .string S_mf, .string S_xx] 9 (0, 0)
def SmallP (x : PlD) : Prop := x.pos.size ≤ 1000 ∧ (-4611686018427387904 ≤ x.many ∧ x.many ≤ 4611686018427387904)
/-- Assets in block g, one of which is written: the stream goes on. -/
def PW (w : World) (B g m i n : Nat) (w' : World) : Prop :=
 ∃ (rs : List PlD) (r : PlD), rs.length = m ∧ rs[i]? = some r ∧ (∀ x ∈ rs, SmallP x) ∧ RowsAt w' 125 g 0 2 (rs.map plRow) ∧ St w' B n ∧ w.grownBy w' (some B)
theorem PW.st {w : World} {B g m i n : Nat} {w' : World} (h : PW w B g m i n w') : St w' B n := by obtain ⟨_, _, _, _, _, _, h, _⟩ := h; exact h
theorem PW.gb {w : World} {B g m i n : Nat} {w' : World} (h : PW w B g m i n w') : w.grownBy w' (some B) := by obtain ⟨_, _, _, _, _, _, _, h⟩ := h; exact h
theorem PW.mono {w : World} {B g m i n k : Nat} {w' : World} (h : PW w B g m i n w') (hk : n ≤ k) : PW w B g m i k w' := by
 obtain ⟨rs, r, h1, h2, h3, h4, h5, h6⟩ := h; exact ⟨rs, r, h1, h2, h3, h4, h5.mono hk, h6⟩
theorem PW.step {w : World} {B g m i n k : Nat} {w' w'' : World} (h : PW w B g m i n w') (hs : St w'' B k) (hg : w'.grownBy w'' (some B)) (hne : g ≠ B) : PW w B g m i k w'' := by
 obtain ⟨rs, r, h1, h2, h3, h4, h5, h6⟩ := h
 exact ⟨rs, r, h1, h2, h3, h4.lift (hg.block g h4.lt (by intro e; cases e; exact hne rfl)), hs, gb_trans h6 hg⟩
theorem PW.alloc {w : World} {B g m i n : Nat} {w' : World} (h : PW w B g m i n w') (o : Obj) : PW w B g m i n (w'.alloc o) := by
 obtain ⟨rs, r, h1, h2, h3, h4, h5, h6⟩ := h
 exact ⟨rs, r, h1, h2, h3, h4.below (below_alloc w' o), h5.alloc o, gb_trans h6 (gb_alloc w' o _)⟩
theorem PW.drew {w : World} {B g m i n : Nat} {w' : World} (h : PW w B g m i n w') : PW w B g m i n w'.drew := by
 obtain ⟨rs, r, h1, h2, h3, h4, h5, h6⟩ := h
 exact ⟨rs, r, h1, h2, h3, h4, h5, gb_trans h6 (gb_drewN w' 1 _)⟩
theorem PW.cells {w : World} {B g m i n : Nat} {w' : World} (h : PW w B g m i n w') : ∃ r : PlD, SmallP r ∧
  w'.cell? ⟨g, i * 2, none⟩ = some (.string r.pos) ∧ w'.cell? ⟨g, i * 2 + 1, none⟩ = some (.int .i64 r.many) ∧ ∀ o, w'.frozen? ⟨g, o, none⟩ = false := by
 obtain ⟨rs, r, h1, h2, h3, h4, h5, h6⟩ := h
 have hx := pl_cells h4 h2
 simp only [Nat.zero_add] at hx
 exact ⟨r, h3 r (List.mem_of_getElem? h2), hx.1, hx.2, fun o => h4.free o⟩
/-- One cell of the asset is written. -/
theorem PW.put {w : World} {B g m i n : Nat} {w' : World} (h : PW w B g m i n w') (hB : B < w.heap.size) (hg : w.heap.size ≤ g) (f : Nat) (u : Value) (hf : f < 2) (hu : ∀ r : PlD, SmallP r → ∃ r' : PlD, SmallP r' ∧ (plRow r).set f u = plRow r') : PW w B g m i n (w'.setCell ⟨g, i * 2 + f, none⟩ u) := by
 obtain ⟨rs, r, h1, h2, h3, h4, h5, h6⟩ := h
 obtain ⟨r', hr', he⟩ := hu r (h3 r (List.mem_of_getElem? h2))
 have hi : i < rs.length := (List.getElem?_eq_some_iff.1 h2).1
 have hs := h4.set (i := i) (f := f) (row := plRow r) (by simp [h2]) hf u
 rw [he, Nat.zero_add, ← List.map_set] at hs
 have hgr := gb_setCell w' g (i * 2 + f) u
 refine ⟨rs.set i r', r', by simpa using h1, by simp [hi], fun x hx => ?_, hs, h5.grown hgr fun r hr => by cases hr; omega, gb_then h6 hgr fun r hr => by cases hr; exact hg⟩
 rcases List.mem_or_eq_of_mem_set hx with hx | rfl
 ·exact h3 x hx
 ·exact hr'
theorem PW.pos {w : World} {B g m i n : Nat} {w' : World} (h : PW w B g m i n w') (hB : B < w.heap.size) (hg : w.heap.size ≤ g) (k : ByteArray) (hk : k.size ≤ 1000) : PW w B g m i n (w'.setCell ⟨g, i * 2, none⟩ (.string k)) :=
 h.put hB hg 0 _ (by omega) fun r hr => ⟨{ r with pos := k }, ⟨hk, hr.2⟩, rfl⟩
theorem PW.many {w : World} {B g m i n : Nat} {w' : World} (h : PW w B g m i n w') (hB : B < w.heap.size) (hg : w.heap.size ≤ g) (x : Int) (hx : -4611686018427387904 ≤ x ∧ x ≤ 4611686018427387904) : PW w B g m i n (w'.setCell ⟨g, i * 2 + 1, none⟩ (.int .i64 x)) :=
 h.put hB hg 1 _ (by omega) fun r hr => ⟨{ r with many := x }, ⟨hr.1, hx⟩, rfl⟩
/-- Places, drawn. -/
def SomePl (lo : Nat) (w : World) (v : Value) : Prop := ∃ rs, Pls w lo v rs ∧ rs.length ≤ 4 ∧ ∀ r ∈ rs, SmallP r
theorem PW.made {w : World} {B g m i n c : Nat} {w' : World} (h : PW w B g m i n w') (hm : m ≤ 4) (hc : m ≤ c) (hg : w.heap.size ≤ g) : SomePl w.heap.size w' (.slice (some ⟨g, 0, none⟩) m c) := by
 obtain ⟨rs, r, h1, h2, h3, h4, h5, h6⟩ := h
 refine ⟨rs, ?_, by omega, h3⟩
 have := h4.rows (lo := w.heap.size) (cap := c) (by simp; omega) hg (by simp; omega)
 rw [List.length_map, h1] at this
 exact this
set_option maxRecDepth 100000 in
set_option maxHeartbeats 16000000 in
theorem placeList_calls (B N : Nat) (w : World) (hs : St w B N) (hN : N ≤ 3970000) :
  Calls Tryz.prog 24 #[.pointer (some ⟨B, 0, none⟩)] w (Made B (N + 60) (SomePl w.heap.size) w) := by
 obtain ⟨i0, hi, hz0, hz1, hz2⟩ := info_parts info_Pl
 have hBw := hs.lt
 go_enter Tryz.func24, Tryz.ntmps24
 go_wp2_with fail
 go_loopw [3, 9] (fun out i wr => ∃ (j : Nat) (xs : List PlD), j ≤ 4 ∧ i = .int .i64 j ∧ xs.length ≤ j ∧ Hid (∀ x ∈ xs, SmallP x) ∧ OwnPl wr (w.heap.size + 1) out xs ∧ St wr B (N + 2 * j) ∧ w.grownBy wr (some B) ∧ wr.heap[w.heap.size]? = some plKeys) (fun _ i _ => 4 - (intOf i).toNat)
 case atStart => exact ⟨0, [], by omega, rfl, by simp, Lib.hid (by simp), World.ownsRow_nil _ _ _ _, hs.alloc _, gb_alloc w _ _, heap_alloc_new w _⟩
 case round =>
  obtain ⟨j, xs, hj, rfl, hxl, Hxs, hown, hsr, hg, hk⟩ := hrel; by_cases hlt : j < 4
  ·have hcell : ∃ k, k.size ≤ 1000 ∧ wr.cell? ⟨w.heap.size, j, none⟩ = some (.string k) := by
    rw [cell_of_row wr _ _ _ _ _ hk]; match j, hlt with
    | 0, _ => exact ⟨S_df, by decide, rfl⟩
    | 1, _ => exact ⟨S_gk, by decide, rfl⟩
    | 2, _ => exact ⟨S_mf, by decide, rfl⟩
    | 3, _ => exact ⟨S_xx, by decide, rfl⟩
   obtain ⟨k, hkm, hcell⟩ := hcell; have Hkm := Lib.hid hkm; clear hkm; have hlk := lt_of_heap hk; go_wp2_with fail
   refine (flip_calls B _ 4 wr hsr (by omega) (by omega) (by omega)).mono ?_
   rintro e w1 ⟨v, ⟨b, rfl⟩, rfl, hs1, hg1⟩; have hown1 := own_keepG hown hg1 (by omega)
   have hk1 := heap_gbG hk hg1 (by omega)
   have hg01 := gb_trans hg hg1; clear hown hsr hg1 hcell hk; cases b
   ·go_wp2_with fail
    refine (pick_calls B _ w1.heap.size _ [0, 1, 1, 2, 3] _ (hs1.alloc _) (by omega) (ints_new w1 [0, 1, 1, 2, 3] (by decide)) hs1.lt (by simp)).mono ?_
    rintro e w4 ⟨v, ⟨c, rfl, hc⟩, rfl, hs4, hg4⟩
    have Hc := Lib.hid (show -4611686018427387904 ≤ c ∧ c ≤ 4611686018427387904 by
     simp only [List.mem_cons, List.not_mem_nil, or_false] at hc
     omega)
    have hown4 := own_keepG (World.ownsRow.alloc hown1 (.cells ([0, 1, 1, 2, 3].map (Value.int .i64)).toArray 3)) hg4 (by omega)
    have hk4 := heap_gbG (heap_alG hk1 (.cells ([0, 1, 1, 2, 3].map (Value.int .i64)).toArray 3)) hg4 (by omega)
    have hg04 : w.grownBy w4 (some B) := gb_trans hg01 (gb_trans (gb_alloc w1 _ _) hg4)
    clear hc hown1 hg4 hs1 hg01 hk1; go_wp2_with (at_builtin; refine wpList_append_own _ rfl _ _ 54 rfl (w.heap.size + 1) 125 i0 (.agg #[.string ⟨#[]⟩, .int .i64 0]) 2 24 Tryz.underlying54 hi hz0 hz1 hz2 rfl (by decide) _ _ _ rfl (World.ownsRow.alloc hown4 _) ⟨w4.heap.size, 0, none⟩ 1 1 [.string k, .int .i64 c] rfl rfl ?c1 ?c2 ?c3 ?c4 ?c5 ?_)
    case c1 => exact cells_newG _ _ _
    case c2 => simp [Value.oneCell']
    case c3 => unfold maxLen; omega
    case c4 => omega
    case c5 => have := lt_of_heap hk4; simp; omega
    intro v' w5 hown5 hgrow _; have hrb := fun r hr => (own_block hown4 r hr).1
    have hk5 : w5.heap[w.heap.size]? = some plKeys := (hgrow.block _ (by have := lt_of_heap hk4; simp; omega) fun e => by have := hrb _ e.symm; omega).trans (heap_alG hk4 _)
    go_wp2_with fail
    go_roundw
    case rel =>
     refine ⟨j + 1, xs ++ [⟨k, c⟩], by omega, by go_num, by rw [List.length_append]; simp; omega, Lib.hid fun x hx => ?_, ?_, ?_, ?_, hk5⟩
     ·rcases List.mem_append.1 hx with h | h
      ·exact Hxs.out x h
      ·rw [List.mem_singleton.1 h]; exact ⟨Hkm.out, Hc.out⟩
     ·unfold OwnPl
      have e : ((xs ++ [(⟨k, c⟩ : PlD)]).map plRow).flatten = (xs.map plRow).flatten ++ [.string k, .int .i64 c] := by simp [plRow]
      rw [e, List.length_append]; exact hown5
     ·exact ((hs4.alloc _).grown hgrow fun r hr => by have := hrb r hr; omega).mono (by omega)
     ·exact gb_then (gb_trans hg04 (gb_alloc w4 _ _)) hgrow fun r hr => by have := hrb r hr; omega
    case measure => simp [intOf]; omega
   ·go_wp2_with fail
    go_roundw
    case rel => exact ⟨j + 1, xs, by omega, by go_num, by omega, Hxs, hown1, hs1.mono (by omega), hg01, hk1⟩
    case measure => simp [intOf]; omega
  ·obtain rfl : j = 4 := by omega
   clear hi hz0 hz1 hz2 hk; rcases hown.2 with ⟨rfl, hnil⟩ | ⟨g, cap, cur, rfl, hgb, hgc, hle, _⟩
   ·have : xs = [] := List.eq_nil_of_length_eq_zero hnil
    subst this; clear hown hnil; go_wp2_with fail
    go_ret
    exact ⟨_, ⟨[], ⟨by simp, by simp, .inl ⟨rfl, rfl⟩⟩, by simp, Hxs.out⟩, rfl, hsr.mono (by omega), hg⟩
   ·obtain ⟨hat, _⟩ := RowsAt.of_owns (sz := 2) (rows := xs.map plRow) (by simpa [OwnPl] using hown) (pl_each xs)
    have hne : g ≠ B := by omega
    have hgb : w.heap.size ≤ g := by omega
    obtain ⟨q, hq⟩ : ∃ q, xs.length = q := ⟨_, rfl⟩
    rw [hq] at hle hxl ⊢
    have Hm := Lib.hid hq; have Hat := Lib.hid hat; have Hxs' := Hxs
    clear hown hat hgc hq; by_cases hz : q = 0
    ·subst hz
     have : xs = [] := List.eq_nil_of_length_eq_zero Hm.out
     subst this; go_wp2_with fail
     go_ret
     refine ⟨_, ⟨[], ?_, by simp, Hxs.out⟩, rfl, hsr.mono (by omega), hg⟩
     have h := Hat.out.rows (lo := w.heap.size) (cap := cap) (by simp) hgb (by simp)
     simpa [Pls] using h
    ·have hpos : 0 < q := by omega
     clear hz; go_wp2_with fail
     refine (flip_calls B _ 15 wr hsr (by omega) (by omega) (by omega)).mono ?_
     rintro e w2 ⟨v, ⟨b, rfl⟩, rfl, hs2, hg2⟩; cases b
     ·go_wp2_with fail
      go_ret
      refine ⟨_, ⟨xs, ?_, by rw [Hm.out]; omega, Hxs.out⟩, rfl, hs2.mono (by omega), gb_trans hg hg2⟩
      have h := (Hat.out.lift (hg2.block g Hat.out.lt (by intro e; cases e; exact hne rfl))).rows (lo := w.heap.size) (cap := cap) (by simp; have := Hm.out; omega) hgb (by simp; have := Hm.out; omega)
      rw [List.length_map, Hm.out] at h
      exact h
     ·go_wp2_with fail
      refine (next_calls B _ q w2 hs2 (by omega) (by omega) (by omega)).mono ?_
      rintro e w3 ⟨v, ⟨i, rfl, hi⟩, rfl, hs3, hg3⟩; have hX : PW w B g q i _ w3 := ⟨xs, xs[i]'(by have := Hm.out; omega), Hm.out, List.getElem?_eq_getElem _, Hxs.out, Hat.out.lift ((hg3.block g (by have := Hat.out.lt; have := hg2.size; omega) (by intro e; cases e; exact hne rfl)).trans (hg2.block g Hat.out.lt (by intro e; cases e; exact hne rfl))), hs3, gb_trans hg (gb_trans hg2 hg3)⟩
      have him : i < q := by omega
      clear hs2 hs3 hsr hg hg2 hg3 Hat Hxs Hxs' Hm hi; obtain ⟨r, hr, c0, -, -⟩ := hX.cells; have Hrk := Lib.hid hr.1; clear hr; go_wp2_with fail
      refine (some_calls B _ w3.heap.size _ [r.pos, T_none, S_df] _ (hX.st.alloc _) (by omega) (strs_new w3 [r.pos, T_none, S_df] (by simp)) hX.st.lt (by simp)).mono ?_
      rintro e w4 ⟨v, ⟨xk, rfl, hxk⟩, rfl, hs4, hg4⟩
      have Hxk := Lib.hid (show xk.size ≤ 1000 by
       simp only [List.mem_cons, List.not_mem_nil, or_false] at hxk
       rcases hxk with rfl | rfl | rfl
       ·exact Hrk.out
       ·decide
       ·decide)
      replace hX := (hX.alloc (.cells ([r.pos, T_none, S_df].map Value.string).toArray 9)).step hs4 hg4 hne; clear hs4 hg4 hxk c0; go_wp2_with fail
      refine (odd_calls B _ 0 12 _ hX.st (by omega) (by omega) (by omega) (by omega)).mono ?_
      rintro e w5 ⟨v, ⟨xv, rfl, hxv1, hxv2⟩, rfl, hs5, hg5⟩; have Hxv := Lib.hid (show -4611686018427387904 ≤ xv ∧ xv ≤ 4611686018427387904 by omega)
      replace hX := hX.step hs5 hg5 hne; obtain ⟨r2, -, c0, c1, cf⟩ := hX.cells; clear hs5 hg5 hxv1 hxv2; go_wp2_with fail
      go_ret
      have hY := (hX.pos hBw hgb xk Hxk.out).many hBw hgb xv Hxv.out; exact ⟨_, hY.made (by omega) hle hgb, rfl, hY.st.mono (by omega), hY.gb⟩
end Go.Proofs.YtddnnjblpgfjeaaGreatDoor
namespace Go.Proofs.YtddnnjblpgfjeaaGreatDoor
open Go.RowKit

def asAt (xs : List AsD) (i : Nat) : AsD := xs[i]?.getD default
theorem asAt_some {xs : List AsD} {i : Nat} {c : AsD} (h : xs[i]? = some c) : asAt xs i = c := by simp [asAt, h]
/-- What is wrong with asset i. -/
def asF (xs : List AsD) (i : Nat) : Int :=
 firstE [unlessE (keyB (asAt xs i).player) 5, unlessE (keyB (asAt xs i).pos) 5, unlessE (betwB (asAt xs i).value (-1000000) 1000000) 1, unlessE (decide (i = 0) || ltS (asAt xs (i - 1)).player (asAt xs i).player) 7]
def plAtt (xs : List PlD) (i : Nat) : PlD := xs[i]?.getD default
theorem plAtt_some {xs : List PlD} {i : Nat} {c : PlD} (h : xs[i]? = some c) : plAtt xs i = c := by simp [plAtt, h]
/-- What is wrong with place i. -/
def plF (xs : List PlD) (i : Nat) : Int :=
 firstE [unlessE (keyB (plAtt xs i).pos) 5, unlessE (betwB (plAtt xs i).many 0 12) 1, unlessE (decide (i = 0) || ltS (plAtt xs (i - 1)).pos (plAtt xs i).pos) 7]
theorem nums3v (w : World) (T : Nat) (a b c : Int) : NumsAt (w.alloc (.cells #[.int .i64 a, .int .i64 b, .int .i64 c] T)) w.heap.size 0 [a, b, c] := by
 intro i x hx
 rw [World.cell?_alloc_at _ _ _ _ rfl]
 match i, hx with
 | 0, hx => simp at hx; subst hx; rfl
 | 1, hx => simp at hx; subst hx; rfl
 | 2, hx => simp at hx; subst hx; rfl
def o88_2 : Array Go.Oper := #[
 ⟨some 9, .fieldAddr 78 (.tmp 4) 0, 0, "value.go:20", #[], none⟩,
 ⟨some 10, .load 9 (.tmp 9), 9, "value.go:20", #[⟨0, .data⟩], none⟩,
 ⟨some 11, .call { callee := .value (.func 89), args := #[.tmp 10], argTypes := #[9] }, 4, "value.go:21", #[⟨1, .data⟩], none⟩,
 ⟨some 12, .call { callee := .value (.func 70), args := #[.tmp 11, .const (.int .i64 5)], argTypes := #[4, 34] }, 34, "value.go:21", #[⟨2, .data⟩, ⟨2, .chain⟩], none⟩,
 ⟨some 13, .fieldAddr 78 (.tmp 4) 1, 0, "value.go:20", #[], none⟩,
 ⟨some 14, .load 9 (.tmp 13), 9, "value.go:20", #[⟨4, .data⟩], none⟩,
 ⟨some 15, .call { callee := .value (.func 89), args := #[.tmp 14], argTypes := #[9] }, 4, "value.go:22", #[⟨5, .data⟩, ⟨3, .chain⟩], none⟩,
 ⟨some 16, .call { callee := .value (.func 70), args := #[.tmp 15, .const (.int .i64 5)], argTypes := #[4, 34] }, 34, "value.go:22", #[⟨6, .data⟩, ⟨6, .chain⟩], none⟩,
 ⟨some 17, .fieldAddr 78 (.tmp 4) 2, 0, "value.go:20", #[], none⟩,
 ⟨some 18, .load 3 (.tmp 17), 3, "value.go:20", #[⟨8, .data⟩], none⟩,
 ⟨some 19, .call { callee := .value (.func 71), args := #[.tmp 18, .const (.int .i64 (-1000000)), .const (.int .i64 1000000)], argTypes := #[3, 3, 3] }, 4, "value.go:23", #[⟨9, .data⟩, ⟨7, .chain⟩], none⟩,
 ⟨some 20, .call { callee := .value (.func 70), args := #[.tmp 19, .const (.int .i64 1)], argTypes := #[4, 34] }, 34, "value.go:23", #[⟨10, .data⟩, ⟨10, .chain⟩], none⟩,
 ⟨some 21, .move (.tmp 0), 3, "value.go:20", #[], none⟩,
 ⟨some 22, .binOp .eql 3 (.tmp 21) (.const (.int .i64 0)) 3, 4, "value.go:20", #[⟨12, .data⟩], none⟩,
 ⟨some 23, .move (.tmp 22), 4, "value.go:20", #[⟨13, .data⟩, ⟨11, .chain⟩], none⟩,
 ⟨some 24, .load 52 (.tmp 1), 52, "value.go:20", #[⟨14, .guard⟩], some (14, false)⟩,
 ⟨some 25, .move (.tmp 0), 3, "value.go:20", #[⟨14, .guard⟩], some (14, false)⟩,
 ⟨some 26, .binOp .sub 3 (.tmp 25) (.const (.int .i64 1)) 3, 3, "value.go:20", #[⟨16, .data⟩, ⟨14, .guard⟩], some (14, false)⟩,
 ⟨some 27, .indexAddr 52 (.tmp 24) (.tmp 26), 0, "value.go:20", #[⟨15, .data⟩, ⟨17, .data⟩, ⟨14, .guard⟩], some (14, false)⟩,
 ⟨some 28, .fieldAddr 78 (.tmp 27) 0, 0, "value.go:20", #[⟨18, .data⟩, ⟨14, .guard⟩], some (14, false)⟩,
 ⟨some 29, .load 9 (.tmp 28), 9, "value.go:20", #[⟨19, .data⟩, ⟨14, .guard⟩], some (14, false)⟩,
 ⟨some 30, .fieldAddr 78 (.tmp 4) 0, 0, "value.go:20", #[⟨14, .guard⟩], some (14, false)⟩,
 ⟨some 31, .load 9 (.tmp 30), 9, "value.go:20", #[⟨21, .data⟩, ⟨14, .guard⟩], some (14, false)⟩,
 ⟨some 32, .binOp .lss 9 (.tmp 29) (.tmp 31) 9, 4, "value.go:20", #[⟨20, .data⟩, ⟨22, .data⟩, ⟨14, .guard⟩], some (14, false)⟩,
 ⟨some 33, .pick (.tmp 23) (.const (.bool true)) (.tmp 32), 4, "value.go:20", #[⟨14, .data⟩, ⟨23, .data⟩], none⟩,
 ⟨some 34, .call { callee := .value (.func 70), args := #[.tmp 33, .const (.int .i64 7)], argTypes := #[4, 34] }, 34, "value.go:24", #[⟨24, .data⟩, ⟨14, .chain⟩], none⟩,
 ⟨some 35, .buildSlice 134 4 #[(0, .tmp 12), (1, .tmp 16), (2, .tmp 20), (3, .tmp 34)], 134, "value.go:20", #[⟨3, .data⟩, ⟨7, .data⟩, ⟨11, .data⟩, ⟨25, .data⟩], none⟩,
 ⟨some 36, .call { callee := .value (.func 33), args := #[.tmp 35], argTypes := #[134] }, 34, "value.go:20", #[⟨26, .data⟩, ⟨25, .chain⟩], none⟩,
 ⟨some 3, .assign (.tmp 36), 34, "value.go:20", #[⟨27, .data⟩, ⟨27, .chain⟩, ⟨0, .phase⟩, ⟨1, .phase⟩, ⟨2, .phase⟩, ⟨3, .phase⟩, ⟨4, .phase⟩, ⟨5, .phase⟩, ⟨6, .phase⟩, ⟨7, .phase⟩, ⟨8, .phase⟩, ⟨9, .phase⟩, ⟨10, .phase⟩, ⟨11, .phase⟩, ⟨12, .phase⟩, ⟨13, .phase⟩, ⟨14, .phase⟩, ⟨15, .phase⟩, ⟨16, .phase⟩, ⟨17, .phase⟩, ⟨18, .phase⟩, ⟨19, .phase⟩, ⟨20, .phase⟩, ⟨21, .phase⟩, ⟨22, .phase⟩, ⟨23, .phase⟩, ⟨24, .phase⟩, ⟨25, .phase⟩, ⟨26, .phase⟩, ⟨27, .phase⟩], none⟩]
theorem o88_2_0 : o88_2[0]? = some (⟨some 9, .fieldAddr 78 (.tmp 4) 0, 0, "value.go:20", #[], none⟩ : Go.Oper) := rfl
theorem o88_2_1 : o88_2[1]? = some (⟨some 10, .load 9 (.tmp 9), 9, "value.go:20", #[⟨0, .data⟩], none⟩ : Go.Oper) := rfl
theorem o88_2_2 : o88_2[2]? = some (⟨some 11, .call { callee := .value (.func 89), args := #[.tmp 10], argTypes := #[9] }, 4, "value.go:21", #[⟨1, .data⟩], none⟩ : Go.Oper) := rfl
theorem o88_2_3 : o88_2[3]? = some (⟨some 12, .call { callee := .value (.func 70), args := #[.tmp 11, .const (.int .i64 5)], argTypes := #[4, 34] }, 34, "value.go:21", #[⟨2, .data⟩, ⟨2, .chain⟩], none⟩ : Go.Oper) := rfl
theorem o88_2_4 : o88_2[4]? = some (⟨some 13, .fieldAddr 78 (.tmp 4) 1, 0, "value.go:20", #[], none⟩ : Go.Oper) := rfl
theorem o88_2_5 : o88_2[5]? = some (⟨some 14, .load 9 (.tmp 13), 9, "value.go:20", #[⟨4, .data⟩], none⟩ : Go.Oper) := rfl
theorem o88_2_6 : o88_2[6]? = some (⟨some 15, .call { callee := .value (.func 89), args := #[.tmp 14], argTypes := #[9] }, 4, "value.go:22", #[⟨5, .data⟩, ⟨3, .chain⟩], none⟩ : Go.Oper) := rfl
theorem o88_2_7 : o88_2[7]? = some (⟨some 16, .call { callee := .value (.func 70), args := #[.tmp 15, .const (.int .i64 5)], argTypes := #[4, 34] }, 34, "value.go:22", #[⟨6, .data⟩, ⟨6, .chain⟩], none⟩ : Go.Oper) := rfl
theorem o88_2_8 : o88_2[8]? = some (⟨some 17, .fieldAddr 78 (.tmp 4) 2, 0, "value.go:20", #[], none⟩ : Go.Oper) := rfl
theorem o88_2_9 : o88_2[9]? = some (⟨some 18, .load 3 (.tmp 17), 3, "value.go:20", #[⟨8, .data⟩], none⟩ : Go.Oper) := rfl
theorem o88_2_10 : o88_2[10]? = some (⟨some 19, .call { callee := .value (.func 71), args := #[.tmp 18, .const (.int .i64 (-1000000)), .const (.int .i64 1000000)], argTypes := #[3, 3, 3] }, 4, "value.go:23", #[⟨9, .data⟩, ⟨7, .chain⟩], none⟩ : Go.Oper) := rfl
theorem o88_2_11 : o88_2[11]? = some (⟨some 20, .call { callee := .value (.func 70), args := #[.tmp 19, .const (.int .i64 1)], argTypes := #[4, 34] }, 34, "value.go:23", #[⟨10, .data⟩, ⟨10, .chain⟩], none⟩ : Go.Oper) := rfl
theorem o88_2_12 : o88_2[12]? = some (⟨some 21, .move (.tmp 0), 3, "value.go:20", #[], none⟩ : Go.Oper) := rfl
theorem o88_2_13 : o88_2[13]? = some (⟨some 22, .binOp .eql 3 (.tmp 21) (.const (.int .i64 0)) 3, 4, "value.go:20", #[⟨12, .data⟩], none⟩ : Go.Oper) := rfl
theorem o88_2_14 : o88_2[14]? = some (⟨some 23, .move (.tmp 22), 4, "value.go:20", #[⟨13, .data⟩, ⟨11, .chain⟩], none⟩ : Go.Oper) := rfl
theorem o88_2_15 : o88_2[15]? = some (⟨some 24, .load 52 (.tmp 1), 52, "value.go:20", #[⟨14, .guard⟩], some (14, false)⟩ : Go.Oper) := rfl
theorem o88_2_16 : o88_2[16]? = some (⟨some 25, .move (.tmp 0), 3, "value.go:20", #[⟨14, .guard⟩], some (14, false)⟩ : Go.Oper) := rfl
theorem o88_2_17 : o88_2[17]? = some (⟨some 26, .binOp .sub 3 (.tmp 25) (.const (.int .i64 1)) 3, 3, "value.go:20", #[⟨16, .data⟩, ⟨14, .guard⟩], some (14, false)⟩ : Go.Oper) := rfl
theorem o88_2_18 : o88_2[18]? = some (⟨some 27, .indexAddr 52 (.tmp 24) (.tmp 26), 0, "value.go:20", #[⟨15, .data⟩, ⟨17, .data⟩, ⟨14, .guard⟩], some (14, false)⟩ : Go.Oper) := rfl
theorem o88_2_19 : o88_2[19]? = some (⟨some 28, .fieldAddr 78 (.tmp 27) 0, 0, "value.go:20", #[⟨18, .data⟩, ⟨14, .guard⟩], some (14, false)⟩ : Go.Oper) := rfl
theorem o88_2_20 : o88_2[20]? = some (⟨some 29, .load 9 (.tmp 28), 9, "value.go:20", #[⟨19, .data⟩, ⟨14, .guard⟩], some (14, false)⟩ : Go.Oper) := rfl
theorem o88_2_21 : o88_2[21]? = some (⟨some 30, .fieldAddr 78 (.tmp 4) 0, 0, "value.go:20", #[⟨14, .guard⟩], some (14, false)⟩ : Go.Oper) := rfl
theorem o88_2_22 : o88_2[22]? = some (⟨some 31, .load 9 (.tmp 30), 9, "value.go:20", #[⟨21, .data⟩, ⟨14, .guard⟩], some (14, false)⟩ : Go.Oper) := rfl
theorem o88_2_23 : o88_2[23]? = some (⟨some 32, .binOp .lss 9 (.tmp 29) (.tmp 31) 9, 4, "value.go:20", #[⟨20, .data⟩, ⟨22, .data⟩, ⟨14, .guard⟩], some (14, false)⟩ : Go.Oper) := rfl
theorem o88_2_24 : o88_2[24]? = some (⟨some 33, .pick (.tmp 23) (.const (.bool true)) (.tmp 32), 4, "value.go:20", #[⟨14, .data⟩, ⟨23, .data⟩], none⟩ : Go.Oper) := rfl
theorem o88_2_25 : o88_2[25]? = some (⟨some 34, .call { callee := .value (.func 70), args := #[.tmp 33, .const (.int .i64 7)], argTypes := #[4, 34] }, 34, "value.go:24", #[⟨24, .data⟩, ⟨14, .chain⟩], none⟩ : Go.Oper) := rfl
theorem o88_2_26 : o88_2[26]? = some (⟨some 35, .buildSlice 134 4 #[(0, .tmp 12), (1, .tmp 16), (2, .tmp 20), (3, .tmp 34)], 134, "value.go:20", #[⟨3, .data⟩, ⟨7, .data⟩, ⟨11, .data⟩, ⟨25, .data⟩], none⟩ : Go.Oper) := rfl
theorem o88_2_27 : o88_2[27]? = some (⟨some 36, .call { callee := .value (.func 33), args := #[.tmp 35], argTypes := #[134] }, 34, "value.go:20", #[⟨26, .data⟩, ⟨25, .chain⟩], none⟩ : Go.Oper) := rfl
theorem o88_2_28 : o88_2[28]? = some (⟨some 3, .assign (.tmp 36), 34, "value.go:20", #[⟨27, .data⟩, ⟨27, .chain⟩, ⟨0, .phase⟩, ⟨1, .phase⟩, ⟨2, .phase⟩, ⟨3, .phase⟩, ⟨4, .phase⟩, ⟨5, .phase⟩, ⟨6, .phase⟩, ⟨7, .phase⟩, ⟨8, .phase⟩, ⟨9, .phase⟩, ⟨10, .phase⟩, ⟨11, .phase⟩, ⟨12, .phase⟩, ⟨13, .phase⟩, ⟨14, .phase⟩, ⟨15, .phase⟩, ⟨16, .phase⟩, ⟨17, .phase⟩, ⟨18, .phase⟩, ⟨19, .phase⟩, ⟨20, .phase⟩, ⟨21, .phase⟩, ⟨22, .phase⟩, ⟨23, .phase⟩, ⟨24, .phase⟩, ⟨25, .phase⟩, ⟨26, .phase⟩, ⟨27, .phase⟩], none⟩ : Go.Oper) := rfl
theorem o88_2_ns : Go.Region.noSelect o88_2 = true := by kernel_rfl
set_option maxRecDepth 100000 in
set_option maxHeartbeats 16000000 in
theorem asCheck1_calls (b g off cap i lo : Nat) (xs : List AsD) (c : AsD) (w : World) (hi : xs[i]? = some c) (hs : SmallA c) (hn : xs.length ≤ 1000000)
  (h1 : w.cell? ⟨b, 0, none⟩ = some (.slice (some ⟨g, off, none⟩) xs.length cap)) (hR : Ass w lo (.slice (some ⟨g, off, none⟩) xs.length cap) xs) :
  Calls Tryz.prog 88 #[.int .i64 (i : Int), .pointer (some ⟨b, 0, none⟩)] w (IntBelow (asF xs i) w) := by
 have hlt : i < xs.length := (List.getElem?_eq_some_iff.1 hi).1
 rcases as_at hR with ⟨h, _⟩ | ⟨g', off', cap', e, _, _, _, hcell⟩
 ·cases h
 simp only [Value.slice.injEq, Option.some.injEq, Addr.mk.injEq, and_true, true_and] at e
 obtain ⟨⟨rfl, rfl⟩, rfl⟩ := e
 obtain ⟨q0, q1, q2⟩ := hcell i c hi
 obtain ⟨W, hW⟩ : ∃ W, W = w.alloc (.cells #[.string c.player, .string c.pos, .int .i64 c.value] 78) := ⟨_, rfl⟩
 have hwW : Below w.heap.size w W := by rw [hW]; exact below_alloc w _
 have hx : W.heap[w.heap.size]? = some (.cells #[.string c.player, .string c.pos, .int .i64 c.value] 78 (0, 0)) := by rw [hW]; exact heap_alloc_new w _
 have x0 := cell_at hx 0 rfl
 have x1 := cell_at hx 1 rfl
 have x2 := cell_at hx 2 rfl
 have c1 := below_cell hwW h1
 have hb0 := (Below.refl W.heap.size W).drew
 have hs1 := hs.1
 have hs2 := hs.2.1
 have HS0 := Lib.hid (show ∀ w', Below W.heap.size W w' → (Below W.heap.size W w' ∧ w'.cell? ⟨b, 0, none⟩ = some (.slice (some ⟨g, off, none⟩) xs.length cap) ∧ w'.cell? ⟨w.heap.size, 0, none⟩ = some (.string c.player) ∧ w'.cell? ⟨w.heap.size, 1, none⟩ = some (.string c.pos) ∧ w'.cell? ⟨w.heap.size, 2, none⟩ = some (.int .i64 c.value)) from fun w' hb => ⟨hb, below_cell hb c1, below_cell hb x0, below_cell hb x1, below_cell hb x2⟩)
 clear hs hx
 by_cases hz : i = 0
 ·have e0 : ((i : Int) == 0) = true := by rw [beq_iff_eq]; omega
  have HS := HS0; have Hr := Lib.hid (show asF xs i = firstE [unlessE (keyB c.player) 5, unlessE (keyB c.pos) 5, unlessE (betwB c.value (-1000000) 1000000) 1, unlessE true 7] by rw [asF, asAt_some hi]; simp [hz])
  clear hi hz c1 x0 x1 x2 hR hcell HS0; go_enter Tryz.func88, Tryz.ntmps88; go_upto_region 2 with fail
  rw [← hW]; clear hW; show Code.wp _ (Code.region 2 o88_2 true) _ _ _
  refine region_start 29 (fun w' => Below W.heap.size W w' ∧ w'.cell? ⟨b, 0, none⟩ = some (.slice (some ⟨g, off, none⟩) xs.length cap) ∧ w'.cell? ⟨w.heap.size, 0, none⟩ = some (.string c.player) ∧ w'.cell? ⟨w.heap.size, 1, none⟩ = some (.string c.pos) ∧ w'.cell? ⟨w.heap.size, 2, none⟩ = some (.int .i64 c.value)) (by kernel_rfl) rfl ?_ (fun hHeld => ?_)
  ·(exact HS.out _ (by first | assumption | exact hHeld.1 | exact below_step hHeld.1 (by first | assumption | exact below_alloc _ _)))
  refine take_to 0 9 (bQ 29 1) (v := ?_) o88_2_0 rfl o88_2_ns (by kernel_rfl) (by kernel_rfl) (fun _ _ _ h => h) (by rfl) ?y01as (by assumption) ?_
  case y01as => intro w h; (try dsimp only at h); go_simp; try with_reducible rfl
  simp only [sE0, sE1]; refine take_to 1 10 (bQ 29 3) (v := ?_) o88_2_1 rfl o88_2_ns (by kernel_rfl) (by kernel_rfl) (fun _ _ _ h => h) (by rfl) ?y11as (by assumption) ?_
  case y11as => intro w h; (try dsimp only at h); go_simp; try with_reducible rfl
  simp only [sE0, sE1]; refine take_to 4 13 (bQ 29 19) (v := ?_) o88_2_4 rfl o88_2_ns (by kernel_rfl) (by kernel_rfl) (fun _ _ _ h => h) (by rfl) ?y41as (by assumption) ?_
  case y41as => intro w h; (try dsimp only at h); go_simp; try with_reducible rfl
  simp only [sE0, sE1]; refine take_to 5 14 (bQ 29 51) (v := ?_) o88_2_5 rfl o88_2_ns (by kernel_rfl) (by kernel_rfl) (fun _ _ _ h => h) (by rfl) ?y51as (by assumption) ?_
  case y51as => intro w h; (try dsimp only at h); go_simp; try with_reducible rfl
  simp only [sE0, sE1]; refine take_to 8 17 (bQ 29 307) (v := ?_) o88_2_8 rfl o88_2_ns (by kernel_rfl) (by kernel_rfl) (fun _ _ _ h => h) (by rfl) ?y81as (by assumption) ?_
  case y81as => intro w h; (try dsimp only at h); go_simp; try with_reducible rfl
  simp only [sE0, sE1]; refine take_to 9 18 (bQ 29 819) (v := ?_) o88_2_9 rfl o88_2_ns (by kernel_rfl) (by kernel_rfl) (fun _ _ _ h => h) (by rfl) ?y91as (by assumption) ?_
  case y91as => intro w h; (try dsimp only at h); go_simp; try with_reducible rfl
  simp only [sE0, sE1]; refine take_to 12 21 (bQ 29 4915) (v := ?_) o88_2_12 rfl o88_2_ns (by kernel_rfl) (by kernel_rfl) (fun _ _ _ h => h) (by rfl) ?y121as (by assumption) ?_
  case y121as => intro w h; (try dsimp only at h); go_simp; try with_reducible rfl
  simp only [sE0, sE1]; refine take_to 13 22 (bQ 29 13107) (v := ?_) o88_2_13 rfl o88_2_ns (by kernel_rfl) (by kernel_rfl) (fun _ _ _ h => h) (by rfl) ?y131as (by assumption) ?_
  case y131as => intro w h; (try dsimp only at h); go_simp; try with_reducible rfl
  simp only [sE0, sE1]; refine run_to 2 (bQ 29 13111) o88_2_2 (by kernel_rfl) (by kernel_rfl) (by rfl) (fun K hK => ?_)
  go_simp; refine (key_calls _ _ (by omega)).mono ?_
  rintro e w' ⟨rfl, rfl⟩; go_wp2_with fail
  refine hK.out _ _ ?_ (fun hHeld => ?_)
  ·(exact HS.out _ (by first | assumption | exact hHeld.1 | exact below_step hHeld.1 (by first | assumption | exact below_alloc _ _)))
  clear hK K; try simp only [Act.put, sEt, sE0, sE1]
  refine run_to 3 (bQ 29 13119) o88_2_3 (by kernel_rfl) (by kernel_rfl) (by rfl) (fun K hK => ?_)
  go_simp; refine (unless_calls _ _ _).mono ?_; rintro e w' ⟨rfl, rfl⟩; go_wp2_with fail
  refine hK.out _ _ ?_ (fun hHeld => ?_)
  ·(exact HS.out _ (by first | assumption | exact hHeld.1 | exact below_step hHeld.1 (by first | assumption | exact below_alloc _ _)))
  clear hK K; try simp only [Act.put, sEt, sE0, sE1]
  refine run_to 6 (bQ 29 13183) o88_2_6 (by kernel_rfl) (by kernel_rfl) (by rfl) (fun K hK => ?_)
  go_simp; refine (key_calls _ _ (by omega)).mono ?_
  rintro e w' ⟨rfl, rfl⟩; go_wp2_with fail
  refine hK.out _ _ ?_ (fun hHeld => ?_)
  ·(exact HS.out _ (by first | assumption | exact hHeld.1 | exact below_step hHeld.1 (by first | assumption | exact below_alloc _ _)))
  clear hK K; try simp only [Act.put, sEt, sE0, sE1]
  refine run_to 7 (bQ 29 13311) o88_2_7 (by kernel_rfl) (by kernel_rfl) (by rfl) (fun K hK => ?_)
  go_simp; refine (unless_calls _ _ _).mono ?_; rintro e w' ⟨rfl, rfl⟩; go_wp2_with fail
  refine hK.out _ _ ?_ (fun hHeld => ?_)
  ·(exact HS.out _ (by first | assumption | exact hHeld.1 | exact below_step hHeld.1 (by first | assumption | exact below_alloc _ _)))
  clear hK K; try simp only [Act.put, sEt, sE0, sE1]
  refine run_to 10 (bQ 29 14335) o88_2_10 (by kernel_rfl) (by kernel_rfl) (by rfl) (fun K hK => ?_)
  go_simp; refine (between_calls _ _ _ _).mono ?_; rintro e w' ⟨rfl, rfl⟩; go_wp2_with fail
  refine hK.out _ _ ?_ (fun hHeld => ?_)
  ·(exact HS.out _ (by first | assumption | exact hHeld.1 | exact below_step hHeld.1 (by first | assumption | exact below_alloc _ _)))
  clear hK K; try simp only [Act.put, sEt, sE0, sE1]
  refine run_to 11 (bQ 29 16383) o88_2_11 (by kernel_rfl) (by kernel_rfl) (by rfl) (fun K hK => ?_)
  go_simp; refine (unless_calls _ _ _).mono ?_; rintro e w' ⟨rfl, rfl⟩; go_wp2_with fail
  refine hK.out _ _ ?_ (fun hHeld => ?_)
  ·(exact HS.out _ (by first | assumption | exact hHeld.1 | exact below_step hHeld.1 (by first | assumption | exact below_alloc _ _)))
  clear hK K; try simp only [Act.put, sEt, sE0, sE1]
  refine take_to 14 23 (bQ 29 32767) (v := ?_) o88_2_14 rfl o88_2_ns (by kernel_rfl) (by kernel_rfl) (fun _ _ _ h => h) (by rfl) ?y141as (by assumption) ?_
  case y141as => intro w h; (try dsimp only at h); go_simp; try with_reducible rfl
  simp only [sE0, sE1]; refine skip_to 15 24 (bQ 29 65535) o88_2_15 rfl o88_2_ns (by kernel_rfl) (by kernel_rfl) (fun _ _ _ h => h) (by rfl) (by assumption) ?_
  simp only [sE0, sE1]; refine skip_to 16 25 (bQ 29 131071) o88_2_16 rfl o88_2_ns (by kernel_rfl) (by kernel_rfl) (fun _ _ _ h => h) (by rfl) (by assumption) ?_
  simp only [sE0, sE1]; refine skip_to 17 26 (bQ 29 262143) o88_2_17 rfl o88_2_ns (by kernel_rfl) (by kernel_rfl) (fun _ _ _ h => h) (by rfl) (by assumption) ?_
  simp only [sE0, sE1]; refine skip_to 18 27 (bQ 29 524287) o88_2_18 rfl o88_2_ns (by kernel_rfl) (by kernel_rfl) (fun _ _ _ h => h) (by rfl) (by assumption) ?_
  simp only [sE0, sE1]; refine skip_to 19 28 (bQ 29 1048575) o88_2_19 rfl o88_2_ns (by kernel_rfl) (by kernel_rfl) (fun _ _ _ h => h) (by rfl) (by assumption) ?_
  simp only [sE0, sE1]; refine skip_to 20 29 (bQ 29 2097151) o88_2_20 rfl o88_2_ns (by kernel_rfl) (by kernel_rfl) (fun _ _ _ h => h) (by rfl) (by assumption) ?_
  simp only [sE0, sE1]; refine skip_to 21 30 (bQ 29 4194303) o88_2_21 rfl o88_2_ns (by kernel_rfl) (by kernel_rfl) (fun _ _ _ h => h) (by rfl) (by assumption) ?_
  simp only [sE0, sE1]; refine skip_to 22 31 (bQ 29 8388607) o88_2_22 rfl o88_2_ns (by kernel_rfl) (by kernel_rfl) (fun _ _ _ h => h) (by rfl) (by assumption) ?_
  simp only [sE0, sE1]; refine skip_to 23 32 (bQ 29 16777215) o88_2_23 rfl o88_2_ns (by kernel_rfl) (by kernel_rfl) (fun _ _ _ h => h) (by rfl) (by assumption) ?_
  simp only [sE0, sE1]; refine take_to 24 33 (bQ 29 33554431) (v := ?_) o88_2_24 rfl o88_2_ns (by kernel_rfl) (by kernel_rfl) (fun _ _ _ h => h) (by rfl) ?y241as (by assumption) ?_
  case y241as => intro w h; (try dsimp only at h); go_simp; try with_reducible rfl
  simp only [sE0, sE1]; refine run_to 25 (bQ 29 67108863) o88_2_25 (by kernel_rfl) (by kernel_rfl) (by rfl) (fun K hK => ?_)
  go_simp; refine (unless_calls _ _ _).mono ?_; rintro e w' ⟨rfl, rfl⟩; go_wp2_with fail
  refine hK.out _ _ ?_ (fun hHeld => ?_)
  ·(exact HS.out _ (by first | assumption | exact hHeld.1 | exact below_step hHeld.1 (by first | assumption | exact below_alloc _ _)))
  clear hK K; try simp only [Act.put, sEt, sE0, sE1]
  refine run_to 26 (bQ 29 134217727) o88_2_26 (by kernel_rfl) (by kernel_rfl) (by rfl) (fun K hK => ?_)
  go_simp; refine hK.out _ _ ?_ (fun hHeld => ?_)
  ·(exact HS.out _ (by first | assumption | exact hHeld.1 | exact below_step hHeld.1 (by first | assumption | exact below_alloc _ _)))
  clear hK K; try simp only [Act.put, sEt, sE0, sE1]
  refine run_to 27 (bQ 29 268435455) o88_2_27 (by kernel_rfl) (by kernel_rfl) (by rfl) (fun K hK => ?_)
  go_simp; refine (orE_calls _ 0 4 [unlessE (keyB c.player) 5, unlessE (keyB c.pos) 5, unlessE (betwB c.value (-1000000) 1000000) 1, unlessE true 7] _ (by simp) (by exact nums4' _ _ _ _ _ _)).mono ?_
  rintro e w' ⟨rfl, rfl⟩; go_wp2_with fail
  refine hK.out _ _ ?_ (fun hHeld => ?_)
  ·(exact HS.out _ (by first | assumption | exact hHeld.1 | exact below_step hHeld.1 (by first | assumption | exact below_alloc _ _)))
  clear hK K; try simp only [Act.put, sEt, sE0, sE1]
  refine take_to 28 3 (bQ 29 536870911) (v := ?_) o88_2_28 rfl o88_2_ns (by kernel_rfl) (by kernel_rfl) (fun _ _ _ h => h) (by rfl) ?y281as (by assumption) ?_
  case y281as => intro w h; (try dsimp only at h); go_simp; try with_reducible rfl
  simp only [sE0, sE1]; refine wpAnyH_done (by kernel_rfl) ?_ _
  go_wp2_with fail
  go_ret
  exact ⟨ret_int Hr.out.symm, below_step hwW hHeld.1⟩
 ·obtain ⟨sp, hsp⟩ : ∃ sp, xs[i - 1]? = some sp := ⟨_, List.getElem?_eq_getElem (show i - 1 < xs.length by omega)⟩
  obtain ⟨r0, -⟩ := hcell (i - 1) sp hsp; have r0W := below_cell hwW r0; have e0 : ((i : Int) == 0) = false := by rw [beq_eq_false_iff_ne]; omega
  have w1 : IntKind.i64.wrap ((i : Int) - 1) = ((i - 1 : Nat) : Int) := by rw [IntWalk.i64_in _ (by omega)]; omega
  have w2 : ((i - 1 : Nat) : Int) < (xs.length : Int) := by omega
  have HS := Lib.hid (show ∀ w', Below W.heap.size W w' → (Below W.heap.size W w' ∧ w'.cell? ⟨b, 0, none⟩ = some (.slice (some ⟨g, off, none⟩) xs.length cap) ∧ w'.cell? ⟨w.heap.size, 0, none⟩ = some (.string c.player) ∧ w'.cell? ⟨w.heap.size, 1, none⟩ = some (.string c.pos) ∧ w'.cell? ⟨w.heap.size, 2, none⟩ = some (.int .i64 c.value) ∧ w'.cell? ⟨g, off + (i - 1) * 3, none⟩ = some (.string sp.player)) from fun w' hb => ⟨hb, below_cell hb c1, below_cell hb x0, below_cell hb x1, below_cell hb x2, below_cell hb r0W⟩)
  have Hr := Lib.hid (show asF xs i = firstE [unlessE (keyB c.player) 5, unlessE (keyB c.pos) 5, unlessE (betwB c.value (-1000000) 1000000) 1, unlessE (ltS sp.player c.player) 7] by rw [asF, asAt_some hi, asAt_some hsp]; simp [hz])
  clear hi hz c1 x0 x1 x2 hR hcell HS0 r0 r0W hsp; go_enter Tryz.func88, Tryz.ntmps88; go_upto_region 2 with fail
  rw [← hW]; clear hW; show Code.wp _ (Code.region 2 o88_2 true) _ _ _
  refine region_start 29 (fun w' => Below W.heap.size W w' ∧ w'.cell? ⟨b, 0, none⟩ = some (.slice (some ⟨g, off, none⟩) xs.length cap) ∧ w'.cell? ⟨w.heap.size, 0, none⟩ = some (.string c.player) ∧ w'.cell? ⟨w.heap.size, 1, none⟩ = some (.string c.pos) ∧ w'.cell? ⟨w.heap.size, 2, none⟩ = some (.int .i64 c.value) ∧ w'.cell? ⟨g, off + (i - 1) * 3, none⟩ = some (.string sp.player)) (by kernel_rfl) rfl ?_ (fun hHeld => ?_)
  ·(exact HS.out _ (by first | assumption | exact hHeld.1 | exact below_step hHeld.1 (by first | assumption | exact below_alloc _ _)))
  refine take_to 0 9 (bQ 29 1) (v := ?_) o88_2_0 rfl o88_2_ns (by kernel_rfl) (by kernel_rfl) (fun _ _ _ h => h) (by rfl) ?y00as (by assumption) ?_
  case y00as => intro w h; (try dsimp only at h); go_simp; try with_reducible rfl
  simp only [sE0, sE1]; refine take_to 1 10 (bQ 29 3) (v := ?_) o88_2_1 rfl o88_2_ns (by kernel_rfl) (by kernel_rfl) (fun _ _ _ h => h) (by rfl) ?y10as (by assumption) ?_
  case y10as => intro w h; (try dsimp only at h); go_simp; try with_reducible rfl
  simp only [sE0, sE1]; refine take_to 4 13 (bQ 29 19) (v := ?_) o88_2_4 rfl o88_2_ns (by kernel_rfl) (by kernel_rfl) (fun _ _ _ h => h) (by rfl) ?y40as (by assumption) ?_
  case y40as => intro w h; (try dsimp only at h); go_simp; try with_reducible rfl
  simp only [sE0, sE1]; refine take_to 5 14 (bQ 29 51) (v := ?_) o88_2_5 rfl o88_2_ns (by kernel_rfl) (by kernel_rfl) (fun _ _ _ h => h) (by rfl) ?y50as (by assumption) ?_
  case y50as => intro w h; (try dsimp only at h); go_simp; try with_reducible rfl
  simp only [sE0, sE1]; refine take_to 8 17 (bQ 29 307) (v := ?_) o88_2_8 rfl o88_2_ns (by kernel_rfl) (by kernel_rfl) (fun _ _ _ h => h) (by rfl) ?y80as (by assumption) ?_
  case y80as => intro w h; (try dsimp only at h); go_simp; try with_reducible rfl
  simp only [sE0, sE1]; refine take_to 9 18 (bQ 29 819) (v := ?_) o88_2_9 rfl o88_2_ns (by kernel_rfl) (by kernel_rfl) (fun _ _ _ h => h) (by rfl) ?y90as (by assumption) ?_
  case y90as => intro w h; (try dsimp only at h); go_simp; try with_reducible rfl
  simp only [sE0, sE1]; refine take_to 12 21 (bQ 29 4915) (v := ?_) o88_2_12 rfl o88_2_ns (by kernel_rfl) (by kernel_rfl) (fun _ _ _ h => h) (by rfl) ?y120as (by assumption) ?_
  case y120as => intro w h; (try dsimp only at h); go_simp; try with_reducible rfl
  simp only [sE0, sE1]; refine take_to 13 22 (bQ 29 13107) (v := ?_) o88_2_13 rfl o88_2_ns (by kernel_rfl) (by kernel_rfl) (fun _ _ _ h => h) (by rfl) ?y130as (by assumption) ?_
  case y130as => intro w h; (try dsimp only at h); go_simp; try with_reducible rfl
  simp only [sE0, sE1]; refine run_to 2 (bQ 29 13111) o88_2_2 (by kernel_rfl) (by kernel_rfl) (by rfl) (fun K hK => ?_)
  go_simp; refine (key_calls _ _ (by omega)).mono ?_
  rintro e w' ⟨rfl, rfl⟩; go_wp2_with fail
  refine hK.out _ _ ?_ (fun hHeld => ?_)
  ·(exact HS.out _ (by first | assumption | exact hHeld.1 | exact below_step hHeld.1 (by first | assumption | exact below_alloc _ _)))
  clear hK K; try simp only [Act.put, sEt, sE0, sE1]
  refine run_to 3 (bQ 29 13119) o88_2_3 (by kernel_rfl) (by kernel_rfl) (by rfl) (fun K hK => ?_)
  go_simp; refine (unless_calls _ _ _).mono ?_; rintro e w' ⟨rfl, rfl⟩; go_wp2_with fail
  refine hK.out _ _ ?_ (fun hHeld => ?_)
  ·(exact HS.out _ (by first | assumption | exact hHeld.1 | exact below_step hHeld.1 (by first | assumption | exact below_alloc _ _)))
  clear hK K; try simp only [Act.put, sEt, sE0, sE1]
  refine run_to 6 (bQ 29 13183) o88_2_6 (by kernel_rfl) (by kernel_rfl) (by rfl) (fun K hK => ?_)
  go_simp; refine (key_calls _ _ (by omega)).mono ?_
  rintro e w' ⟨rfl, rfl⟩; go_wp2_with fail
  refine hK.out _ _ ?_ (fun hHeld => ?_)
  ·(exact HS.out _ (by first | assumption | exact hHeld.1 | exact below_step hHeld.1 (by first | assumption | exact below_alloc _ _)))
  clear hK K; try simp only [Act.put, sEt, sE0, sE1]
  refine run_to 7 (bQ 29 13311) o88_2_7 (by kernel_rfl) (by kernel_rfl) (by rfl) (fun K hK => ?_)
  go_simp; refine (unless_calls _ _ _).mono ?_; rintro e w' ⟨rfl, rfl⟩; go_wp2_with fail
  refine hK.out _ _ ?_ (fun hHeld => ?_)
  ·(exact HS.out _ (by first | assumption | exact hHeld.1 | exact below_step hHeld.1 (by first | assumption | exact below_alloc _ _)))
  clear hK K; try simp only [Act.put, sEt, sE0, sE1]
  refine run_to 10 (bQ 29 14335) o88_2_10 (by kernel_rfl) (by kernel_rfl) (by rfl) (fun K hK => ?_)
  go_simp; refine (between_calls _ _ _ _).mono ?_; rintro e w' ⟨rfl, rfl⟩; go_wp2_with fail
  refine hK.out _ _ ?_ (fun hHeld => ?_)
  ·(exact HS.out _ (by first | assumption | exact hHeld.1 | exact below_step hHeld.1 (by first | assumption | exact below_alloc _ _)))
  clear hK K; try simp only [Act.put, sEt, sE0, sE1]
  refine run_to 11 (bQ 29 16383) o88_2_11 (by kernel_rfl) (by kernel_rfl) (by rfl) (fun K hK => ?_)
  go_simp; refine (unless_calls _ _ _).mono ?_; rintro e w' ⟨rfl, rfl⟩; go_wp2_with fail
  refine hK.out _ _ ?_ (fun hHeld => ?_)
  ·(exact HS.out _ (by first | assumption | exact hHeld.1 | exact below_step hHeld.1 (by first | assumption | exact below_alloc _ _)))
  clear hK K; try simp only [Act.put, sEt, sE0, sE1]
  refine take_to 14 23 (bQ 29 32767) (v := ?_) o88_2_14 rfl o88_2_ns (by kernel_rfl) (by kernel_rfl) (fun _ _ _ h => h) (by rfl) ?y140as (by assumption) ?_
  case y140as => intro w h; (try dsimp only at h); go_simp; try with_reducible rfl
  simp only [sE0, sE1]; refine take_to 15 24 (bQ 29 65535) (v := ?_) o88_2_15 rfl o88_2_ns (by kernel_rfl) (by kernel_rfl) (fun _ _ _ h => h) (by rfl) ?y150as (by assumption) ?_
  case y150as => intro w h; (try dsimp only at h); go_simp; try with_reducible rfl
  simp only [sE0, sE1]; refine take_to 16 25 (bQ 29 131071) (v := ?_) o88_2_16 rfl o88_2_ns (by kernel_rfl) (by kernel_rfl) (fun _ _ _ h => h) (by rfl) ?y160as (by assumption) ?_
  case y160as => intro w h; (try dsimp only at h); go_simp; try with_reducible rfl
  simp only [sE0, sE1]; refine take_to 17 26 (bQ 29 262143) (v := ?_) o88_2_17 rfl o88_2_ns (by kernel_rfl) (by kernel_rfl) (fun _ _ _ h => h) (by rfl) ?y170as (by assumption) ?_
  case y170as => intro w h; (try dsimp only at h); go_simp; try with_reducible rfl
  simp only [sE0, sE1]; refine take_to 18 27 (bQ 29 524287) (v := ?_) o88_2_18 rfl o88_2_ns (by kernel_rfl) (by kernel_rfl) (fun _ _ _ h => h) (by rfl) ?y180as (by assumption) ?_
  case y180as => intro w h; (try dsimp only at h); go_simp; try with_reducible rfl
  simp only [sE0, sE1]; refine take_to 19 28 (bQ 29 1048575) (v := ?_) o88_2_19 rfl o88_2_ns (by kernel_rfl) (by kernel_rfl) (fun _ _ _ h => h) (by rfl) ?y190as (by assumption) ?_
  case y190as => intro w h; (try dsimp only at h); go_simp; try with_reducible rfl
  simp only [sE0, sE1]; refine take_to 20 29 (bQ 29 2097151) (v := ?_) o88_2_20 rfl o88_2_ns (by kernel_rfl) (by kernel_rfl) (fun _ _ _ h => h) (by rfl) ?y200as (by assumption) ?_
  case y200as => intro w h; (try dsimp only at h); go_simp; try with_reducible rfl
  simp only [sE0, sE1]; refine take_to 21 30 (bQ 29 4194303) (v := ?_) o88_2_21 rfl o88_2_ns (by kernel_rfl) (by kernel_rfl) (fun _ _ _ h => h) (by rfl) ?y210as (by assumption) ?_
  case y210as => intro w h; (try dsimp only at h); go_simp; try with_reducible rfl
  simp only [sE0, sE1]; refine take_to 22 31 (bQ 29 8388607) (v := ?_) o88_2_22 rfl o88_2_ns (by kernel_rfl) (by kernel_rfl) (fun _ _ _ h => h) (by rfl) ?y220as (by assumption) ?_
  case y220as => intro w h; (try dsimp only at h); go_simp; try with_reducible rfl
  simp only [sE0, sE1]; refine take_to 23 32 (bQ 29 16777215) (v := ?_) o88_2_23 rfl o88_2_ns (by kernel_rfl) (by kernel_rfl) (fun _ _ _ h => h) (by rfl) ?y230as (by assumption) ?_
  case y230as => intro w h; (try dsimp only at h); go_simp; try with_reducible rfl
  simp only [sE0, sE1]; refine take_to 24 33 (bQ 29 33554431) (v := ?_) o88_2_24 rfl o88_2_ns (by kernel_rfl) (by kernel_rfl) (fun _ _ _ h => h) (by rfl) ?y240as (by assumption) ?_
  case y240as => intro w h; (try dsimp only at h); go_simp; try with_reducible rfl
  simp only [sE0, sE1]; refine run_to 25 (bQ 29 67108863) o88_2_25 (by kernel_rfl) (by kernel_rfl) (by rfl) (fun K hK => ?_)
  go_simp; refine (unless_calls _ _ _).mono ?_; rintro e w' ⟨rfl, rfl⟩; go_wp2_with fail
  refine hK.out _ _ ?_ (fun hHeld => ?_)
  ·(exact HS.out _ (by first | assumption | exact hHeld.1 | exact below_step hHeld.1 (by first | assumption | exact below_alloc _ _)))
  clear hK K; try simp only [Act.put, sEt, sE0, sE1]
  refine run_to 26 (bQ 29 134217727) o88_2_26 (by kernel_rfl) (by kernel_rfl) (by rfl) (fun K hK => ?_)
  go_simp; refine hK.out _ _ ?_ (fun hHeld => ?_)
  ·(exact HS.out _ (by first | assumption | exact hHeld.1 | exact below_step hHeld.1 (by first | assumption | exact below_alloc _ _)))
  clear hK K; try simp only [Act.put, sEt, sE0, sE1]
  refine run_to 27 (bQ 29 268435455) o88_2_27 (by kernel_rfl) (by kernel_rfl) (by rfl) (fun K hK => ?_)
  go_simp; refine (orE_calls _ 0 4 [unlessE (keyB c.player) 5, unlessE (keyB c.pos) 5, unlessE (betwB c.value (-1000000) 1000000) 1, unlessE (ltS sp.player c.player) 7] _ (by simp) (by exact nums4' _ _ _ _ _ _)).mono ?_
  rintro e w' ⟨rfl, rfl⟩; go_wp2_with fail
  refine hK.out _ _ ?_ (fun hHeld => ?_)
  ·(exact HS.out _ (by first | assumption | exact hHeld.1 | exact below_step hHeld.1 (by first | assumption | exact below_alloc _ _)))
  clear hK K; try simp only [Act.put, sEt, sE0, sE1]
  refine take_to 28 3 (bQ 29 536870911) (v := ?_) o88_2_28 rfl o88_2_ns (by kernel_rfl) (by kernel_rfl) (fun _ _ _ h => h) (by rfl) ?y280as (by assumption) ?_
  case y280as => intro w h; (try dsimp only at h); go_simp; try with_reducible rfl
  simp only [sE0, sE1]; refine wpAnyH_done (by kernel_rfl) ?_ _
  go_wp2_with fail
  go_ret
  exact ⟨ret_int Hr.out.symm, below_step hwW hHeld.1⟩
def chkA (xs : List AsD) : Int := eachE xs.length 300 (asF xs)
set_option maxRecDepth 100000 in
set_option maxHeartbeats 2000000 in
theorem asCheck_calls (lo : Nat) (v : Value) (xs : List AsD) (w : World) (hR : Ass w lo v xs) (hs : ∀ c ∈ xs, SmallA c) (hn : xs.length ≤ 1000000) :
  Calls Tryz.prog 28 #[v] w (IntBelow (chkA xs) w) := by
 obtain ⟨a, c, rfl⟩ := as_shape hR
 have hb := below_alloc w (.cells #[.slice a xs.length c] 52)
 have x0 : (w.alloc (.cells #[.slice a xs.length c] 52)).cell? ⟨w.heap.size, 0, none⟩ = some (.slice a xs.length c) := by rw [World.cell?_alloc_at _ _ _ _ rfl]; rfl
 have Hs := Lib.hid hs
 have hf : ∀ (W : World) (i : Nat), i < xs.length → Below (w.alloc (.cells #[.slice a xs.length c] 52)).heap.size (w.alloc (.cells #[.slice a xs.length c] 52)) W → Calls Tryz.prog 88 (#[.int .i64 (i : Int)] ++ #[.pointer (some ⟨w.heap.size, 0, none⟩)]) W (IntBelow (asF xs i) W) := by
  intro W i hi hbW; obtain ⟨r, hr⟩ : ∃ r, xs[i]? = some r := ⟨xs[i], List.getElem?_eq_getElem hi⟩
  have hRW : Ass W lo (.slice a xs.length c) xs := (hR.below hb).below hbW
  have y0 := below_cell hbW x0; rcases as_at hRW with ⟨_, rfl⟩ | ⟨g, off, cap, e, _⟩
  ·simp at hi
  ·rw [e] at hRW y0
   exact asCheck1_calls w.heap.size g off cap i lo xs r W hr (Hs.out r (List.mem_of_getElem? hr)) hn y0 hRW
 have Hf := Lib.hid hf
 have Hb := Lib.hid hb
 clear hf hs hR hb
 go_enter Tryz.func28, Tryz.ntmps28
 go_wp2_with fail
 refine (each_calls 88 #[.pointer (some ⟨w.heap.size, 0, none⟩)] (enters_of Tryz.func88 (by kernel_rfl) rfl) (asF xs) xs.length 300 _ hn Hf.out).mono ?_
 rintro e w' ⟨rfl, hb⟩
 go_wp2_with fail
 go_ret
 exact ⟨rfl, below_step Hb.out hb⟩
def o90_2 : Array Go.Oper := #[
 ⟨some 9, .fieldAddr 125 (.tmp 4) 0, 0, "value.go:32", #[], none⟩,
 ⟨some 10, .load 9 (.tmp 9), 9, "value.go:32", #[⟨0, .data⟩], none⟩,
 ⟨some 11, .call { callee := .value (.func 89), args := #[.tmp 10], argTypes := #[9] }, 4, "value.go:33", #[⟨1, .data⟩], none⟩,
 ⟨some 12, .call { callee := .value (.func 70), args := #[.tmp 11, .const (.int .i64 5)], argTypes := #[4, 34] }, 34, "value.go:33", #[⟨2, .data⟩, ⟨2, .chain⟩], none⟩,
 ⟨some 13, .fieldAddr 125 (.tmp 4) 1, 0, "value.go:32", #[], none⟩,
 ⟨some 14, .load 3 (.tmp 13), 3, "value.go:32", #[⟨4, .data⟩], none⟩,
 ⟨some 15, .call { callee := .value (.func 71), args := #[.tmp 14, .const (.int .i64 0), .const (.int .i64 12)], argTypes := #[3, 3, 3] }, 4, "value.go:34", #[⟨5, .data⟩, ⟨3, .chain⟩], none⟩,
 ⟨some 16, .call { callee := .value (.func 70), args := #[.tmp 15, .const (.int .i64 1)], argTypes := #[4, 34] }, 34, "value.go:34", #[⟨6, .data⟩, ⟨6, .chain⟩], none⟩,
 ⟨some 17, .move (.tmp 0), 3, "value.go:32", #[], none⟩,
 ⟨some 18, .binOp .eql 3 (.tmp 17) (.const (.int .i64 0)) 3, 4, "value.go:32", #[⟨8, .data⟩], none⟩,
 ⟨some 19, .move (.tmp 18), 4, "value.go:32", #[⟨9, .data⟩, ⟨7, .chain⟩], none⟩,
 ⟨some 20, .load 54 (.tmp 1), 54, "value.go:32", #[⟨10, .guard⟩], some (10, false)⟩,
 ⟨some 21, .move (.tmp 0), 3, "value.go:32", #[⟨10, .guard⟩], some (10, false)⟩,
 ⟨some 22, .binOp .sub 3 (.tmp 21) (.const (.int .i64 1)) 3, 3, "value.go:32", #[⟨12, .data⟩, ⟨10, .guard⟩], some (10, false)⟩,
 ⟨some 23, .indexAddr 54 (.tmp 20) (.tmp 22), 0, "value.go:32", #[⟨11, .data⟩, ⟨13, .data⟩, ⟨10, .guard⟩], some (10, false)⟩,
 ⟨some 24, .fieldAddr 125 (.tmp 23) 0, 0, "value.go:32", #[⟨14, .data⟩, ⟨10, .guard⟩], some (10, false)⟩,
 ⟨some 25, .load 9 (.tmp 24), 9, "value.go:32", #[⟨15, .data⟩, ⟨10, .guard⟩], some (10, false)⟩,
 ⟨some 26, .fieldAddr 125 (.tmp 4) 0, 0, "value.go:32", #[⟨10, .guard⟩], some (10, false)⟩,
 ⟨some 27, .load 9 (.tmp 26), 9, "value.go:32", #[⟨17, .data⟩, ⟨10, .guard⟩], some (10, false)⟩,
 ⟨some 28, .binOp .lss 9 (.tmp 25) (.tmp 27) 9, 4, "value.go:32", #[⟨16, .data⟩, ⟨18, .data⟩, ⟨10, .guard⟩], some (10, false)⟩,
 ⟨some 29, .pick (.tmp 19) (.const (.bool true)) (.tmp 28), 4, "value.go:32", #[⟨10, .data⟩, ⟨19, .data⟩], none⟩,
 ⟨some 30, .call { callee := .value (.func 70), args := #[.tmp 29, .const (.int .i64 7)], argTypes := #[4, 34] }, 34, "value.go:35", #[⟨20, .data⟩, ⟨10, .chain⟩], none⟩,
 ⟨some 31, .buildSlice 134 3 #[(0, .tmp 12), (1, .tmp 16), (2, .tmp 30)], 134, "value.go:32", #[⟨3, .data⟩, ⟨7, .data⟩, ⟨21, .data⟩], none⟩,
 ⟨some 32, .call { callee := .value (.func 33), args := #[.tmp 31], argTypes := #[134] }, 34, "value.go:32", #[⟨22, .data⟩, ⟨21, .chain⟩], none⟩,
 ⟨some 3, .assign (.tmp 32), 34, "value.go:32", #[⟨23, .data⟩, ⟨23, .chain⟩, ⟨0, .phase⟩, ⟨1, .phase⟩, ⟨2, .phase⟩, ⟨3, .phase⟩, ⟨4, .phase⟩, ⟨5, .phase⟩, ⟨6, .phase⟩, ⟨7, .phase⟩, ⟨8, .phase⟩, ⟨9, .phase⟩, ⟨10, .phase⟩, ⟨11, .phase⟩, ⟨12, .phase⟩, ⟨13, .phase⟩, ⟨14, .phase⟩, ⟨15, .phase⟩, ⟨16, .phase⟩, ⟨17, .phase⟩, ⟨18, .phase⟩, ⟨19, .phase⟩, ⟨20, .phase⟩, ⟨21, .phase⟩, ⟨22, .phase⟩, ⟨23, .phase⟩], none⟩]
theorem o90_2_0 : o90_2[0]? = some (⟨some 9, .fieldAddr 125 (.tmp 4) 0, 0, "value.go:32", #[], none⟩ : Go.Oper) := rfl
theorem o90_2_1 : o90_2[1]? = some (⟨some 10, .load 9 (.tmp 9), 9, "value.go:32", #[⟨0, .data⟩], none⟩ : Go.Oper) := rfl
theorem o90_2_2 : o90_2[2]? = some (⟨some 11, .call { callee := .value (.func 89), args := #[.tmp 10], argTypes := #[9] }, 4, "value.go:33", #[⟨1, .data⟩], none⟩ : Go.Oper) := rfl
theorem o90_2_3 : o90_2[3]? = some (⟨some 12, .call { callee := .value (.func 70), args := #[.tmp 11, .const (.int .i64 5)], argTypes := #[4, 34] }, 34, "value.go:33", #[⟨2, .data⟩, ⟨2, .chain⟩], none⟩ : Go.Oper) := rfl
theorem o90_2_4 : o90_2[4]? = some (⟨some 13, .fieldAddr 125 (.tmp 4) 1, 0, "value.go:32", #[], none⟩ : Go.Oper) := rfl
theorem o90_2_5 : o90_2[5]? = some (⟨some 14, .load 3 (.tmp 13), 3, "value.go:32", #[⟨4, .data⟩], none⟩ : Go.Oper) := rfl
theorem o90_2_6 : o90_2[6]? = some (⟨some 15, .call { callee := .value (.func 71), args := #[.tmp 14, .const (.int .i64 0), .const (.int .i64 12)], argTypes := #[3, 3, 3] }, 4, "value.go:34", #[⟨5, .data⟩, ⟨3, .chain⟩], none⟩ : Go.Oper) := rfl
theorem o90_2_7 : o90_2[7]? = some (⟨some 16, .call { callee := .value (.func 70), args := #[.tmp 15, .const (.int .i64 1)], argTypes := #[4, 34] }, 34, "value.go:34", #[⟨6, .data⟩, ⟨6, .chain⟩], none⟩ : Go.Oper) := rfl
theorem o90_2_8 : o90_2[8]? = some (⟨some 17, .move (.tmp 0), 3, "value.go:32", #[], none⟩ : Go.Oper) := rfl
theorem o90_2_9 : o90_2[9]? = some (⟨some 18, .binOp .eql 3 (.tmp 17) (.const (.int .i64 0)) 3, 4, "value.go:32", #[⟨8, .data⟩], none⟩ : Go.Oper) := rfl
theorem o90_2_10 : o90_2[10]? = some (⟨some 19, .move (.tmp 18), 4, "value.go:32", #[⟨9, .data⟩, ⟨7, .chain⟩], none⟩ : Go.Oper) := rfl
theorem o90_2_11 : o90_2[11]? = some (⟨some 20, .load 54 (.tmp 1), 54, "value.go:32", #[⟨10, .guard⟩], some (10, false)⟩ : Go.Oper) := rfl
theorem o90_2_12 : o90_2[12]? = some (⟨some 21, .move (.tmp 0), 3, "value.go:32", #[⟨10, .guard⟩], some (10, false)⟩ : Go.Oper) := rfl
theorem o90_2_13 : o90_2[13]? = some (⟨some 22, .binOp .sub 3 (.tmp 21) (.const (.int .i64 1)) 3, 3, "value.go:32", #[⟨12, .data⟩, ⟨10, .guard⟩], some (10, false)⟩ : Go.Oper) := rfl
theorem o90_2_14 : o90_2[14]? = some (⟨some 23, .indexAddr 54 (.tmp 20) (.tmp 22), 0, "value.go:32", #[⟨11, .data⟩, ⟨13, .data⟩, ⟨10, .guard⟩], some (10, false)⟩ : Go.Oper) := rfl
theorem o90_2_15 : o90_2[15]? = some (⟨some 24, .fieldAddr 125 (.tmp 23) 0, 0, "value.go:32", #[⟨14, .data⟩, ⟨10, .guard⟩], some (10, false)⟩ : Go.Oper) := rfl
theorem o90_2_16 : o90_2[16]? = some (⟨some 25, .load 9 (.tmp 24), 9, "value.go:32", #[⟨15, .data⟩, ⟨10, .guard⟩], some (10, false)⟩ : Go.Oper) := rfl
theorem o90_2_17 : o90_2[17]? = some (⟨some 26, .fieldAddr 125 (.tmp 4) 0, 0, "value.go:32", #[⟨10, .guard⟩], some (10, false)⟩ : Go.Oper) := rfl
theorem o90_2_18 : o90_2[18]? = some (⟨some 27, .load 9 (.tmp 26), 9, "value.go:32", #[⟨17, .data⟩, ⟨10, .guard⟩], some (10, false)⟩ : Go.Oper) := rfl
theorem o90_2_19 : o90_2[19]? = some (⟨some 28, .binOp .lss 9 (.tmp 25) (.tmp 27) 9, 4, "value.go:32", #[⟨16, .data⟩, ⟨18, .data⟩, ⟨10, .guard⟩], some (10, false)⟩ : Go.Oper) := rfl
theorem o90_2_20 : o90_2[20]? = some (⟨some 29, .pick (.tmp 19) (.const (.bool true)) (.tmp 28), 4, "value.go:32", #[⟨10, .data⟩, ⟨19, .data⟩], none⟩ : Go.Oper) := rfl
theorem o90_2_21 : o90_2[21]? = some (⟨some 30, .call { callee := .value (.func 70), args := #[.tmp 29, .const (.int .i64 7)], argTypes := #[4, 34] }, 34, "value.go:35", #[⟨20, .data⟩, ⟨10, .chain⟩], none⟩ : Go.Oper) := rfl
theorem o90_2_22 : o90_2[22]? = some (⟨some 31, .buildSlice 134 3 #[(0, .tmp 12), (1, .tmp 16), (2, .tmp 30)], 134, "value.go:32", #[⟨3, .data⟩, ⟨7, .data⟩, ⟨21, .data⟩], none⟩ : Go.Oper) := rfl
theorem o90_2_23 : o90_2[23]? = some (⟨some 32, .call { callee := .value (.func 33), args := #[.tmp 31], argTypes := #[134] }, 34, "value.go:32", #[⟨22, .data⟩, ⟨21, .chain⟩], none⟩ : Go.Oper) := rfl
theorem o90_2_24 : o90_2[24]? = some (⟨some 3, .assign (.tmp 32), 34, "value.go:32", #[⟨23, .data⟩, ⟨23, .chain⟩, ⟨0, .phase⟩, ⟨1, .phase⟩, ⟨2, .phase⟩, ⟨3, .phase⟩, ⟨4, .phase⟩, ⟨5, .phase⟩, ⟨6, .phase⟩, ⟨7, .phase⟩, ⟨8, .phase⟩, ⟨9, .phase⟩, ⟨10, .phase⟩, ⟨11, .phase⟩, ⟨12, .phase⟩, ⟨13, .phase⟩, ⟨14, .phase⟩, ⟨15, .phase⟩, ⟨16, .phase⟩, ⟨17, .phase⟩, ⟨18, .phase⟩, ⟨19, .phase⟩, ⟨20, .phase⟩, ⟨21, .phase⟩, ⟨22, .phase⟩, ⟨23, .phase⟩], none⟩ : Go.Oper) := rfl
theorem o90_2_ns : Go.Region.noSelect o90_2 = true := by kernel_rfl
set_option maxRecDepth 100000 in
set_option maxHeartbeats 16000000 in
theorem plCheck1_calls (b g off cap i lo : Nat) (xs : List PlD) (c : PlD) (w : World) (hi : xs[i]? = some c) (hs : SmallP c) (hn : xs.length ≤ 1000000)
  (h1 : w.cell? ⟨b, 0, none⟩ = some (.slice (some ⟨g, off, none⟩) xs.length cap)) (hR : Pls w lo (.slice (some ⟨g, off, none⟩) xs.length cap) xs) :
  Calls Tryz.prog 90 #[.int .i64 (i : Int), .pointer (some ⟨b, 0, none⟩)] w (IntBelow (plF xs i) w) := by
 have hlt : i < xs.length := (List.getElem?_eq_some_iff.1 hi).1
 rcases pl_at hR with ⟨h, _⟩ | ⟨g', off', cap', e, _, _, _, hcell⟩
 ·cases h
 simp only [Value.slice.injEq, Option.some.injEq, Addr.mk.injEq, and_true, true_and] at e
 obtain ⟨⟨rfl, rfl⟩, rfl⟩ := e
 obtain ⟨q0, q1⟩ := hcell i c hi
 obtain ⟨W, hW⟩ : ∃ W, W = w.alloc (.cells #[.string c.pos, .int .i64 c.many] 125) := ⟨_, rfl⟩
 have hwW : Below w.heap.size w W := by rw [hW]; exact below_alloc w _
 have hx : W.heap[w.heap.size]? = some (.cells #[.string c.pos, .int .i64 c.many] 125 (0, 0)) := by rw [hW]; exact heap_alloc_new w _
 have x0 := cell_at hx 0 rfl
 have x1 := cell_at hx 1 rfl
 have c1 := below_cell hwW h1
 have hb0 := (Below.refl W.heap.size W).drew
 have hs1 := hs.1
 have hs2 := hs.2.1
 have HS0 := Lib.hid (show ∀ w', Below W.heap.size W w' → (Below W.heap.size W w' ∧ w'.cell? ⟨b, 0, none⟩ = some (.slice (some ⟨g, off, none⟩) xs.length cap) ∧ w'.cell? ⟨w.heap.size, 0, none⟩ = some (.string c.pos) ∧ w'.cell? ⟨w.heap.size, 1, none⟩ = some (.int .i64 c.many)) from fun w' hb => ⟨hb, below_cell hb c1, below_cell hb x0, below_cell hb x1⟩)
 clear hs hx
 by_cases hz : i = 0
 ·have e0 : ((i : Int) == 0) = true := by rw [beq_iff_eq]; omega
  have HS := HS0; have Hr := Lib.hid (show plF xs i = firstE [unlessE (keyB c.pos) 5, unlessE (betwB c.many 0 12) 1, unlessE true 7] by rw [plF, plAtt_some hi]; simp [hz])
  clear hi hz c1 x0 x1 hR hcell HS0; go_enter Tryz.func90, Tryz.ntmps90; go_upto_region 2 with fail
  rw [← hW]; clear hW; show Code.wp _ (Code.region 2 o90_2 true) _ _ _
  refine region_start 25 (fun w' => Below W.heap.size W w' ∧ w'.cell? ⟨b, 0, none⟩ = some (.slice (some ⟨g, off, none⟩) xs.length cap) ∧ w'.cell? ⟨w.heap.size, 0, none⟩ = some (.string c.pos) ∧ w'.cell? ⟨w.heap.size, 1, none⟩ = some (.int .i64 c.many)) (by kernel_rfl) rfl ?_ (fun hHeld => ?_)
  ·(exact HS.out _ (by first | assumption | exact hHeld.1 | exact below_step hHeld.1 (by first | assumption | exact below_alloc _ _)))
  refine take_to 0 9 (bQ 25 1) (v := ?_) o90_2_0 rfl o90_2_ns (by kernel_rfl) (by kernel_rfl) (fun _ _ _ h => h) (by rfl) ?y01pl (by assumption) ?_
  case y01pl => intro w h; (try dsimp only at h); go_simp; try with_reducible rfl
  simp only [sE0, sE1]; refine take_to 1 10 (bQ 25 3) (v := ?_) o90_2_1 rfl o90_2_ns (by kernel_rfl) (by kernel_rfl) (fun _ _ _ h => h) (by rfl) ?y11pl (by assumption) ?_
  case y11pl => intro w h; (try dsimp only at h); go_simp; try with_reducible rfl
  simp only [sE0, sE1]; refine take_to 4 13 (bQ 25 19) (v := ?_) o90_2_4 rfl o90_2_ns (by kernel_rfl) (by kernel_rfl) (fun _ _ _ h => h) (by rfl) ?y41pl (by assumption) ?_
  case y41pl => intro w h; (try dsimp only at h); go_simp; try with_reducible rfl
  simp only [sE0, sE1]; refine take_to 5 14 (bQ 25 51) (v := ?_) o90_2_5 rfl o90_2_ns (by kernel_rfl) (by kernel_rfl) (fun _ _ _ h => h) (by rfl) ?y51pl (by assumption) ?_
  case y51pl => intro w h; (try dsimp only at h); go_simp; try with_reducible rfl
  simp only [sE0, sE1]; refine take_to 8 17 (bQ 25 307) (v := ?_) o90_2_8 rfl o90_2_ns (by kernel_rfl) (by kernel_rfl) (fun _ _ _ h => h) (by rfl) ?y81pl (by assumption) ?_
  case y81pl => intro w h; (try dsimp only at h); go_simp; try with_reducible rfl
  simp only [sE0, sE1]; refine take_to 9 18 (bQ 25 819) (v := ?_) o90_2_9 rfl o90_2_ns (by kernel_rfl) (by kernel_rfl) (fun _ _ _ h => h) (by rfl) ?y91pl (by assumption) ?_
  case y91pl => intro w h; (try dsimp only at h); go_simp; try with_reducible rfl
  simp only [sE0, sE1]; refine run_to 2 (bQ 25 823) o90_2_2 (by kernel_rfl) (by kernel_rfl) (by rfl) (fun K hK => ?_)
  go_simp; refine (key_calls _ _ (by omega)).mono ?_
  rintro e w' ⟨rfl, rfl⟩; go_wp2_with fail
  refine hK.out _ _ ?_ (fun hHeld => ?_)
  ·(exact HS.out _ (by first | assumption | exact hHeld.1 | exact below_step hHeld.1 (by first | assumption | exact below_alloc _ _)))
  clear hK K; try simp only [Act.put, sEt, sE0, sE1]
  refine run_to 3 (bQ 25 831) o90_2_3 (by kernel_rfl) (by kernel_rfl) (by rfl) (fun K hK => ?_)
  go_simp; refine (unless_calls _ _ _).mono ?_; rintro e w' ⟨rfl, rfl⟩; go_wp2_with fail
  refine hK.out _ _ ?_ (fun hHeld => ?_)
  ·(exact HS.out _ (by first | assumption | exact hHeld.1 | exact below_step hHeld.1 (by first | assumption | exact below_alloc _ _)))
  clear hK K; try simp only [Act.put, sEt, sE0, sE1]
  refine run_to 6 (bQ 25 895) o90_2_6 (by kernel_rfl) (by kernel_rfl) (by rfl) (fun K hK => ?_)
  go_simp; refine (between_calls _ _ _ _).mono ?_; rintro e w' ⟨rfl, rfl⟩; go_wp2_with fail
  refine hK.out _ _ ?_ (fun hHeld => ?_)
  ·(exact HS.out _ (by first | assumption | exact hHeld.1 | exact below_step hHeld.1 (by first | assumption | exact below_alloc _ _)))
  clear hK K; try simp only [Act.put, sEt, sE0, sE1]
  refine run_to 7 (bQ 25 1023) o90_2_7 (by kernel_rfl) (by kernel_rfl) (by rfl) (fun K hK => ?_)
  go_simp; refine (unless_calls _ _ _).mono ?_; rintro e w' ⟨rfl, rfl⟩; go_wp2_with fail
  refine hK.out _ _ ?_ (fun hHeld => ?_)
  ·(exact HS.out _ (by first | assumption | exact hHeld.1 | exact below_step hHeld.1 (by first | assumption | exact below_alloc _ _)))
  clear hK K; try simp only [Act.put, sEt, sE0, sE1]
  refine take_to 10 19 (bQ 25 2047) (v := ?_) o90_2_10 rfl o90_2_ns (by kernel_rfl) (by kernel_rfl) (fun _ _ _ h => h) (by rfl) ?y101pl (by assumption) ?_
  case y101pl => intro w h; (try dsimp only at h); go_simp; try with_reducible rfl
  simp only [sE0, sE1]; refine skip_to 11 20 (bQ 25 4095) o90_2_11 rfl o90_2_ns (by kernel_rfl) (by kernel_rfl) (fun _ _ _ h => h) (by rfl) (by assumption) ?_
  simp only [sE0, sE1]; refine skip_to 12 21 (bQ 25 8191) o90_2_12 rfl o90_2_ns (by kernel_rfl) (by kernel_rfl) (fun _ _ _ h => h) (by rfl) (by assumption) ?_
  simp only [sE0, sE1]; refine skip_to 13 22 (bQ 25 16383) o90_2_13 rfl o90_2_ns (by kernel_rfl) (by kernel_rfl) (fun _ _ _ h => h) (by rfl) (by assumption) ?_
  simp only [sE0, sE1]; refine skip_to 14 23 (bQ 25 32767) o90_2_14 rfl o90_2_ns (by kernel_rfl) (by kernel_rfl) (fun _ _ _ h => h) (by rfl) (by assumption) ?_
  simp only [sE0, sE1]; refine skip_to 15 24 (bQ 25 65535) o90_2_15 rfl o90_2_ns (by kernel_rfl) (by kernel_rfl) (fun _ _ _ h => h) (by rfl) (by assumption) ?_
  simp only [sE0, sE1]; refine skip_to 16 25 (bQ 25 131071) o90_2_16 rfl o90_2_ns (by kernel_rfl) (by kernel_rfl) (fun _ _ _ h => h) (by rfl) (by assumption) ?_
  simp only [sE0, sE1]; refine skip_to 17 26 (bQ 25 262143) o90_2_17 rfl o90_2_ns (by kernel_rfl) (by kernel_rfl) (fun _ _ _ h => h) (by rfl) (by assumption) ?_
  simp only [sE0, sE1]; refine skip_to 18 27 (bQ 25 524287) o90_2_18 rfl o90_2_ns (by kernel_rfl) (by kernel_rfl) (fun _ _ _ h => h) (by rfl) (by assumption) ?_
  simp only [sE0, sE1]; refine skip_to 19 28 (bQ 25 1048575) o90_2_19 rfl o90_2_ns (by kernel_rfl) (by kernel_rfl) (fun _ _ _ h => h) (by rfl) (by assumption) ?_
  simp only [sE0, sE1]; refine take_to 20 29 (bQ 25 2097151) (v := ?_) o90_2_20 rfl o90_2_ns (by kernel_rfl) (by kernel_rfl) (fun _ _ _ h => h) (by rfl) ?y201pl (by assumption) ?_
  case y201pl => intro w h; (try dsimp only at h); go_simp; try with_reducible rfl
  simp only [sE0, sE1]; refine run_to 21 (bQ 25 4194303) o90_2_21 (by kernel_rfl) (by kernel_rfl) (by rfl) (fun K hK => ?_)
  go_simp; refine (unless_calls _ _ _).mono ?_; rintro e w' ⟨rfl, rfl⟩; go_wp2_with fail
  refine hK.out _ _ ?_ (fun hHeld => ?_)
  ·(exact HS.out _ (by first | assumption | exact hHeld.1 | exact below_step hHeld.1 (by first | assumption | exact below_alloc _ _)))
  clear hK K; try simp only [Act.put, sEt, sE0, sE1]
  refine run_to 22 (bQ 25 8388607) o90_2_22 (by kernel_rfl) (by kernel_rfl) (by rfl) (fun K hK => ?_)
  go_simp; refine hK.out _ _ ?_ (fun hHeld => ?_)
  ·(exact HS.out _ (by first | assumption | exact hHeld.1 | exact below_step hHeld.1 (by first | assumption | exact below_alloc _ _)))
  clear hK K; try simp only [Act.put, sEt, sE0, sE1]
  refine run_to 23 (bQ 25 16777215) o90_2_23 (by kernel_rfl) (by kernel_rfl) (by rfl) (fun K hK => ?_)
  go_simp; refine (orE_calls _ 0 3 [unlessE (keyB c.pos) 5, unlessE (betwB c.many 0 12) 1, unlessE true 7] _ (by simp) (by exact nums3v _ _ _ _ _)).mono ?_
  rintro e w' ⟨rfl, rfl⟩; go_wp2_with fail
  refine hK.out _ _ ?_ (fun hHeld => ?_)
  ·(exact HS.out _ (by first | assumption | exact hHeld.1 | exact below_step hHeld.1 (by first | assumption | exact below_alloc _ _)))
  clear hK K; try simp only [Act.put, sEt, sE0, sE1]
  refine take_to 24 3 (bQ 25 33554431) (v := ?_) o90_2_24 rfl o90_2_ns (by kernel_rfl) (by kernel_rfl) (fun _ _ _ h => h) (by rfl) ?y241pl (by assumption) ?_
  case y241pl => intro w h; (try dsimp only at h); go_simp; try with_reducible rfl
  simp only [sE0, sE1]; refine wpAnyH_done (by kernel_rfl) ?_ _
  go_wp2_with fail
  go_ret
  exact ⟨ret_int Hr.out.symm, below_step hwW hHeld.1⟩
 ·obtain ⟨sp, hsp⟩ : ∃ sp, xs[i - 1]? = some sp := ⟨_, List.getElem?_eq_getElem (show i - 1 < xs.length by omega)⟩
  obtain ⟨r0, -⟩ := hcell (i - 1) sp hsp; have r0W := below_cell hwW r0; have e0 : ((i : Int) == 0) = false := by rw [beq_eq_false_iff_ne]; omega
  have w1 : IntKind.i64.wrap ((i : Int) - 1) = ((i - 1 : Nat) : Int) := by rw [IntWalk.i64_in _ (by omega)]; omega
  have w2 : ((i - 1 : Nat) : Int) < (xs.length : Int) := by omega
  have HS := Lib.hid (show ∀ w', Below W.heap.size W w' → (Below W.heap.size W w' ∧ w'.cell? ⟨b, 0, none⟩ = some (.slice (some ⟨g, off, none⟩) xs.length cap) ∧ w'.cell? ⟨w.heap.size, 0, none⟩ = some (.string c.pos) ∧ w'.cell? ⟨w.heap.size, 1, none⟩ = some (.int .i64 c.many) ∧ w'.cell? ⟨g, off + (i - 1) * 2, none⟩ = some (.string sp.pos)) from fun w' hb => ⟨hb, below_cell hb c1, below_cell hb x0, below_cell hb x1, below_cell hb r0W⟩)
  have Hr := Lib.hid (show plF xs i = firstE [unlessE (keyB c.pos) 5, unlessE (betwB c.many 0 12) 1, unlessE (ltS sp.pos c.pos) 7] by rw [plF, plAtt_some hi, plAtt_some hsp]; simp [hz])
  clear hi hz c1 x0 x1 hR hcell HS0 r0 r0W hsp; go_enter Tryz.func90, Tryz.ntmps90; go_upto_region 2 with fail
  rw [← hW]; clear hW; show Code.wp _ (Code.region 2 o90_2 true) _ _ _
  refine region_start 25 (fun w' => Below W.heap.size W w' ∧ w'.cell? ⟨b, 0, none⟩ = some (.slice (some ⟨g, off, none⟩) xs.length cap) ∧ w'.cell? ⟨w.heap.size, 0, none⟩ = some (.string c.pos) ∧ w'.cell? ⟨w.heap.size, 1, none⟩ = some (.int .i64 c.many) ∧ w'.cell? ⟨g, off + (i - 1) * 2, none⟩ = some (.string sp.pos)) (by kernel_rfl) rfl ?_ (fun hHeld => ?_)
  ·(exact HS.out _ (by first | assumption | exact hHeld.1 | exact below_step hHeld.1 (by first | assumption | exact below_alloc _ _)))
  refine take_to 0 9 (bQ 25 1) (v := ?_) o90_2_0 rfl o90_2_ns (by kernel_rfl) (by kernel_rfl) (fun _ _ _ h => h) (by rfl) ?y00pl (by assumption) ?_
  case y00pl => intro w h; (try dsimp only at h); go_simp; try with_reducible rfl
  simp only [sE0, sE1]; refine take_to 1 10 (bQ 25 3) (v := ?_) o90_2_1 rfl o90_2_ns (by kernel_rfl) (by kernel_rfl) (fun _ _ _ h => h) (by rfl) ?y10pl (by assumption) ?_
  case y10pl => intro w h; (try dsimp only at h); go_simp; try with_reducible rfl
  simp only [sE0, sE1]; refine take_to 4 13 (bQ 25 19) (v := ?_) o90_2_4 rfl o90_2_ns (by kernel_rfl) (by kernel_rfl) (fun _ _ _ h => h) (by rfl) ?y40pl (by assumption) ?_
  case y40pl => intro w h; (try dsimp only at h); go_simp; try with_reducible rfl
  simp only [sE0, sE1]; refine take_to 5 14 (bQ 25 51) (v := ?_) o90_2_5 rfl o90_2_ns (by kernel_rfl) (by kernel_rfl) (fun _ _ _ h => h) (by rfl) ?y50pl (by assumption) ?_
  case y50pl => intro w h; (try dsimp only at h); go_simp; try with_reducible rfl
  simp only [sE0, sE1]; refine take_to 8 17 (bQ 25 307) (v := ?_) o90_2_8 rfl o90_2_ns (by kernel_rfl) (by kernel_rfl) (fun _ _ _ h => h) (by rfl) ?y80pl (by assumption) ?_
  case y80pl => intro w h; (try dsimp only at h); go_simp; try with_reducible rfl
  simp only [sE0, sE1]; refine take_to 9 18 (bQ 25 819) (v := ?_) o90_2_9 rfl o90_2_ns (by kernel_rfl) (by kernel_rfl) (fun _ _ _ h => h) (by rfl) ?y90pl (by assumption) ?_
  case y90pl => intro w h; (try dsimp only at h); go_simp; try with_reducible rfl
  simp only [sE0, sE1]; refine run_to 2 (bQ 25 823) o90_2_2 (by kernel_rfl) (by kernel_rfl) (by rfl) (fun K hK => ?_)
  go_simp; refine (key_calls _ _ (by omega)).mono ?_
  rintro e w' ⟨rfl, rfl⟩; go_wp2_with fail
  refine hK.out _ _ ?_ (fun hHeld => ?_)
  ·(exact HS.out _ (by first | assumption | exact hHeld.1 | exact below_step hHeld.1 (by first | assumption | exact below_alloc _ _)))
  clear hK K; try simp only [Act.put, sEt, sE0, sE1]
  refine run_to 3 (bQ 25 831) o90_2_3 (by kernel_rfl) (by kernel_rfl) (by rfl) (fun K hK => ?_)
  go_simp; refine (unless_calls _ _ _).mono ?_; rintro e w' ⟨rfl, rfl⟩; go_wp2_with fail
  refine hK.out _ _ ?_ (fun hHeld => ?_)
  ·(exact HS.out _ (by first | assumption | exact hHeld.1 | exact below_step hHeld.1 (by first | assumption | exact below_alloc _ _)))
  clear hK K; try simp only [Act.put, sEt, sE0, sE1]
  refine run_to 6 (bQ 25 895) o90_2_6 (by kernel_rfl) (by kernel_rfl) (by rfl) (fun K hK => ?_)
  go_simp; refine (between_calls _ _ _ _).mono ?_; rintro e w' ⟨rfl, rfl⟩; go_wp2_with fail
  refine hK.out _ _ ?_ (fun hHeld => ?_)
  ·(exact HS.out _ (by first | assumption | exact hHeld.1 | exact below_step hHeld.1 (by first | assumption | exact below_alloc _ _)))
  clear hK K; try simp only [Act.put, sEt, sE0, sE1]
  refine run_to 7 (bQ 25 1023) o90_2_7 (by kernel_rfl) (by kernel_rfl) (by rfl) (fun K hK => ?_)
  go_simp; refine (unless_calls _ _ _).mono ?_; rintro e w' ⟨rfl, rfl⟩; go_wp2_with fail
  refine hK.out _ _ ?_ (fun hHeld => ?_)
  ·(exact HS.out _ (by first | assumption | exact hHeld.1 | exact below_step hHeld.1 (by first | assumption | exact below_alloc _ _)))
  clear hK K; try simp only [Act.put, sEt, sE0, sE1]
  refine take_to 10 19 (bQ 25 2047) (v := ?_) o90_2_10 rfl o90_2_ns (by kernel_rfl) (by kernel_rfl) (fun _ _ _ h => h) (by rfl) ?y100pl (by assumption) ?_
  case y100pl => intro w h; (try dsimp only at h); go_simp; try with_reducible rfl
  simp only [sE0, sE1]; refine take_to 11 20 (bQ 25 4095) (v := ?_) o90_2_11 rfl o90_2_ns (by kernel_rfl) (by kernel_rfl) (fun _ _ _ h => h) (by rfl) ?y110pl (by assumption) ?_
  case y110pl => intro w h; (try dsimp only at h); go_simp; try with_reducible rfl
  simp only [sE0, sE1]; refine take_to 12 21 (bQ 25 8191) (v := ?_) o90_2_12 rfl o90_2_ns (by kernel_rfl) (by kernel_rfl) (fun _ _ _ h => h) (by rfl) ?y120pl (by assumption) ?_
  case y120pl => intro w h; (try dsimp only at h); go_simp; try with_reducible rfl
  simp only [sE0, sE1]; refine take_to 13 22 (bQ 25 16383) (v := ?_) o90_2_13 rfl o90_2_ns (by kernel_rfl) (by kernel_rfl) (fun _ _ _ h => h) (by rfl) ?y130pl (by assumption) ?_
  case y130pl => intro w h; (try dsimp only at h); go_simp; try with_reducible rfl
  simp only [sE0, sE1]; refine take_to 14 23 (bQ 25 32767) (v := ?_) o90_2_14 rfl o90_2_ns (by kernel_rfl) (by kernel_rfl) (fun _ _ _ h => h) (by rfl) ?y140pl (by assumption) ?_
  case y140pl => intro w h; (try dsimp only at h); go_simp; try with_reducible rfl
  simp only [sE0, sE1]; refine take_to 15 24 (bQ 25 65535) (v := ?_) o90_2_15 rfl o90_2_ns (by kernel_rfl) (by kernel_rfl) (fun _ _ _ h => h) (by rfl) ?y150pl (by assumption) ?_
  case y150pl => intro w h; (try dsimp only at h); go_simp; try with_reducible rfl
  simp only [sE0, sE1]; refine take_to 16 25 (bQ 25 131071) (v := ?_) o90_2_16 rfl o90_2_ns (by kernel_rfl) (by kernel_rfl) (fun _ _ _ h => h) (by rfl) ?y160pl (by assumption) ?_
  case y160pl => intro w h; (try dsimp only at h); go_simp; try with_reducible rfl
  simp only [sE0, sE1]; refine take_to 17 26 (bQ 25 262143) (v := ?_) o90_2_17 rfl o90_2_ns (by kernel_rfl) (by kernel_rfl) (fun _ _ _ h => h) (by rfl) ?y170pl (by assumption) ?_
  case y170pl => intro w h; (try dsimp only at h); go_simp; try with_reducible rfl
  simp only [sE0, sE1]; refine take_to 18 27 (bQ 25 524287) (v := ?_) o90_2_18 rfl o90_2_ns (by kernel_rfl) (by kernel_rfl) (fun _ _ _ h => h) (by rfl) ?y180pl (by assumption) ?_
  case y180pl => intro w h; (try dsimp only at h); go_simp; try with_reducible rfl
  simp only [sE0, sE1]; refine take_to 19 28 (bQ 25 1048575) (v := ?_) o90_2_19 rfl o90_2_ns (by kernel_rfl) (by kernel_rfl) (fun _ _ _ h => h) (by rfl) ?y190pl (by assumption) ?_
  case y190pl => intro w h; (try dsimp only at h); go_simp; try with_reducible rfl
  simp only [sE0, sE1]; refine take_to 20 29 (bQ 25 2097151) (v := ?_) o90_2_20 rfl o90_2_ns (by kernel_rfl) (by kernel_rfl) (fun _ _ _ h => h) (by rfl) ?y200pl (by assumption) ?_
  case y200pl => intro w h; (try dsimp only at h); go_simp; try with_reducible rfl
  simp only [sE0, sE1]; refine run_to 21 (bQ 25 4194303) o90_2_21 (by kernel_rfl) (by kernel_rfl) (by rfl) (fun K hK => ?_)
  go_simp; refine (unless_calls _ _ _).mono ?_; rintro e w' ⟨rfl, rfl⟩; go_wp2_with fail
  refine hK.out _ _ ?_ (fun hHeld => ?_)
  ·(exact HS.out _ (by first | assumption | exact hHeld.1 | exact below_step hHeld.1 (by first | assumption | exact below_alloc _ _)))
  clear hK K; try simp only [Act.put, sEt, sE0, sE1]
  refine run_to 22 (bQ 25 8388607) o90_2_22 (by kernel_rfl) (by kernel_rfl) (by rfl) (fun K hK => ?_)
  go_simp; refine hK.out _ _ ?_ (fun hHeld => ?_)
  ·(exact HS.out _ (by first | assumption | exact hHeld.1 | exact below_step hHeld.1 (by first | assumption | exact below_alloc _ _)))
  clear hK K; try simp only [Act.put, sEt, sE0, sE1]
  refine run_to 23 (bQ 25 16777215) o90_2_23 (by kernel_rfl) (by kernel_rfl) (by rfl) (fun K hK => ?_)
  go_simp; refine (orE_calls _ 0 3 [unlessE (keyB c.pos) 5, unlessE (betwB c.many 0 12) 1, unlessE (ltS sp.pos c.pos) 7] _ (by simp) (by exact nums3v _ _ _ _ _)).mono ?_
  rintro e w' ⟨rfl, rfl⟩; go_wp2_with fail
  refine hK.out _ _ ?_ (fun hHeld => ?_)
  ·(exact HS.out _ (by first | assumption | exact hHeld.1 | exact below_step hHeld.1 (by first | assumption | exact below_alloc _ _)))
  clear hK K; try simp only [Act.put, sEt, sE0, sE1]
  refine take_to 24 3 (bQ 25 33554431) (v := ?_) o90_2_24 rfl o90_2_ns (by kernel_rfl) (by kernel_rfl) (fun _ _ _ h => h) (by rfl) ?y240pl (by assumption) ?_
  case y240pl => intro w h; (try dsimp only at h); go_simp; try with_reducible rfl
  simp only [sE0, sE1]; refine wpAnyH_done (by kernel_rfl) ?_ _
  go_wp2_with fail
  go_ret
  exact ⟨ret_int Hr.out.symm, below_step hwW hHeld.1⟩
def chkP (xs : List PlD) : Int := eachE xs.length 10 (plF xs)
set_option maxRecDepth 100000 in
set_option maxHeartbeats 2000000 in
theorem plCheck_calls (lo : Nat) (v : Value) (xs : List PlD) (w : World) (hR : Pls w lo v xs) (hs : ∀ c ∈ xs, SmallP c) (hn : xs.length ≤ 1000000) :
  Calls Tryz.prog 29 #[v] w (IntBelow (chkP xs) w) := by
 obtain ⟨a, c, rfl⟩ := pl_shape hR
 have hb := below_alloc w (.cells #[.slice a xs.length c] 54)
 have x0 : (w.alloc (.cells #[.slice a xs.length c] 54)).cell? ⟨w.heap.size, 0, none⟩ = some (.slice a xs.length c) := by rw [World.cell?_alloc_at _ _ _ _ rfl]; rfl
 have Hs := Lib.hid hs
 have hf : ∀ (W : World) (i : Nat), i < xs.length → Below (w.alloc (.cells #[.slice a xs.length c] 54)).heap.size (w.alloc (.cells #[.slice a xs.length c] 54)) W → Calls Tryz.prog 90 (#[.int .i64 (i : Int)] ++ #[.pointer (some ⟨w.heap.size, 0, none⟩)]) W (IntBelow (plF xs i) W) := by
  intro W i hi hbW; obtain ⟨r, hr⟩ : ∃ r, xs[i]? = some r := ⟨xs[i], List.getElem?_eq_getElem hi⟩
  have hRW : Pls W lo (.slice a xs.length c) xs := (hR.below hb).below hbW
  have y0 := below_cell hbW x0; rcases pl_at hRW with ⟨_, rfl⟩ | ⟨g, off, cap, e, _⟩
  ·simp at hi
  ·rw [e] at hRW y0
   exact plCheck1_calls w.heap.size g off cap i lo xs r W hr (Hs.out r (List.mem_of_getElem? hr)) hn y0 hRW
 have Hf := Lib.hid hf
 have Hb := Lib.hid hb
 clear hf hs hR hb
 go_enter Tryz.func29, Tryz.ntmps29
 go_wp2_with fail
 refine (each_calls 90 #[.pointer (some ⟨w.heap.size, 0, none⟩)] (enters_of Tryz.func90 (by kernel_rfl) rfl) (plF xs) xs.length 10 _ hn Hf.out).mono ?_
 rintro e w' ⟨rfl, hb⟩
 go_wp2_with fail
 go_ret
 exact ⟨rfl, below_step Hb.out hb⟩
/-- What is wrong with a team, or the places. -/
def teamE (xs : List AsD) (ps : List PlD) : Int := firstE [chkA xs, chkP ps]
set_option maxRecDepth 100000 in
set_option maxHeartbeats 1000000 in
theorem wrongTeam_calls (lo lo' : Nat) (v u : Value) (xs : List AsD) (ps : List PlD) (w : World) (hR : Ass w lo v xs) (hs : ∀ c ∈ xs, SmallA c) (hn : xs.length ≤ 1000000) (hP : Pls w lo' u ps) (hp : ∀ c ∈ ps, SmallP c) (hm : ps.length ≤ 1000000) :
  Calls Tryz.prog 103 #[v, u] w (IntBelow (teamE xs ps) w) := by
 have C1 := Lib.hid (asCheck_calls lo v xs w hR hs hn)
 have C2 := Lib.hid (fun w' hb => plCheck_calls lo' u ps w' (hP.below hb) hp hm)
 obtain ⟨a, c, rfl⟩ := as_shape hR
 obtain ⟨a', c', rfl⟩ := pl_shape hP
 clear hR hP hs hp
 go_enter Tryz.func103, Tryz.ntmps103
 go_wp2_with fail
 refine C1.out.mono ?_
 rintro e w1 ⟨rfl, hb1⟩
 go_wp2_with fail
 refine (C2.out w1 hb1).mono ?_
 rintro e w2 ⟨rfl, hb2⟩
 go_wp2_with fail
 refine (orE_calls _ 0 2 [chkA xs, chkP ps] _ (by simp) (by exact nums2 _ _ _ _)).mono ?_
 rintro e w3 ⟨rfl, rfl⟩
 go_wp2_with fail
 go_ret
 exact ⟨rfl, below_step (below_step hb1 hb2) (below_alloc _ _)⟩
end Go.Proofs.YtddnnjblpgfjeaaGreatDoor
