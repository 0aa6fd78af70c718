/- Fills, drawn: players in slots that they fit; one of them may be changed. -/
import Derived.Test.YtfcaokpadodijaaGreatMgan
import Derived.Test.YtfcaokpadodijaaGreatMgaz
import Derived.Test.YtfcaokpadodijaaGreatMgap
import Derived.Test.YtfcaokpadodijaaGreatMgam
import Derived.Test.YtfcaokpadodijaaGreatMgav
namespace Go.Proofs.YtfcaokpadodijaaGreat
open Go.RowKit

theorem info_fil : (Tryz.prog.info? 49).map (fun i => (i.zero, i.size, i.bytes)) = some (some (.agg #[.string ⟨#[]⟩, .string ⟨#[]⟩]), 2, 32) := by kernel_rfl
def SmallFi (f : FiD) : Prop := f.slot.size ≤ 1000 ∧ f.who.size ≤ 1000
/-- Fills in block g, one of which is written: the stream goes on. -/
def FwS (w : World) (B g m i n : Nat) (w' : World) : Prop :=
 ∃ (rs : List FiD) (r : FiD), rs.length = m ∧ rs[i]? = some r ∧ (∀ x ∈ rs, SmallFi x) ∧ RowsAt w' 49 g 0 2 (rs.map fiRow) ∧ St w' B n ∧ w.grownBy w' (some B)
theorem FwS.st {w : World} {B g m i n : Nat} {w' : World} (h : FwS w B g m i n w') : St w' B n := by obtain ⟨_, _, _, _, _, _, h, _⟩ := h; exact h
theorem FwS.gb {w : World} {B g m i n : Nat} {w' : World} (h : FwS w B g m i n w') : w.grownBy w' (some B) := by obtain ⟨_, _, _, _, _, _, _, h⟩ := h; exact h
theorem FwS.mono {w : World} {B g m i n k : Nat} {w' : World} (h : FwS w B g m i n w') (hk : n ≤ k) : FwS w B g m i k w' := by
 obtain ⟨rs, r, h1, h2, h3, h4, h5, h6⟩ := h; exact ⟨rs, r, h1, h2, h3, h4, h5.mono hk, h6⟩
theorem FwS.step {w : World} {B g m i n k : Nat} {w' w'' : World} (h : FwS w B g m i n w') (hs : St w'' B k) (hg : w'.grownBy w'' (some B)) (hne : g ≠ B) : FwS w B g m i k w'' := by
 obtain ⟨rs, r, h1, h2, h3, h4, h5, h6⟩ := h
 exact ⟨rs, r, h1, h2, h3, h4.lift (hg.block g h4.lt (by intro e; cases e; exact hne rfl)), hs, gb_trans h6 hg⟩
theorem FwS.alloc {w : World} {B g m i n : Nat} {w' : World} (h : FwS w B g m i n w') (o : Obj) : FwS w B g m i n (w'.alloc o) := by
 obtain ⟨rs, r, h1, h2, h3, h4, h5, h6⟩ := h
 exact ⟨rs, r, h1, h2, h3, h4.below (below_alloc w' o), h5.alloc o, gb_trans h6 (gb_alloc w' o _)⟩
theorem FwS.drew {w : World} {B g m i n : Nat} {w' : World} (h : FwS w B g m i n w') : FwS w B g m i n w'.drew := by
 obtain ⟨rs, r, h1, h2, h3, h4, h5, h6⟩ := h
 exact ⟨rs, r, h1, h2, h3, h4, h5, gb_trans h6 (gb_drewN w' 1 _)⟩
theorem FwS.cells {w : World} {B g m i n : Nat} {w' : World} (h : FwS w B g m i n w') : ∃ r : FiD, SmallFi r ∧ w'.cell? ⟨g, i * 2, none⟩ = some (.string r.slot) ∧ w'.cell? ⟨g, i * 2 + 1, none⟩ = some (.string r.who) ∧ ∀ o, w'.frozen? ⟨g, o, none⟩ = false := by
 obtain ⟨rs, r, h1, h2, h3, h4, h5, h6⟩ := h
 have hx : ∀ (j : Nat) (u : Value), (fiRow r)[j]? = some u → w'.cell? ⟨g, i * 2 + j, none⟩ = some u := fun j u hu => by
  have := h4.cell (i := i) (j := j) (r := fiRow r) (u := u) (by simp [h2]) hu
  simpa using this
 exact ⟨r, h3 r (List.mem_of_getElem? h2), hx 0 _ rfl, hx 1 _ rfl, fun o => h4.free o⟩
/-- One cell of the fill is written. -/
theorem FwS.put {w : World} {B g m i n : Nat} {w' : World} (h : FwS w B g m i n w') (hB : B < w.heap.size) (hg : w.heap.size ≤ g) (f : Nat) (u : Value) (hf : f < 2) (hu : ∀ r : FiD, SmallFi r → ∃ r' : FiD, SmallFi r' ∧ (fiRow r).set f u = fiRow r') : FwS w B g m i n (w'.setCell ⟨g, i * 2 + f, none⟩ u) := by
 obtain ⟨rs, r, h1, h2, h3, h4, h5, h6⟩ := h
 obtain ⟨r', hr', he⟩ := hu r (h3 r (List.mem_of_getElem? h2))
 have hi : i < rs.length := (List.getElem?_eq_some_iff.1 h2).1
 have hs := h4.set (i := i) (f := f) (row := fiRow r) (by simp [h2]) hf u
 rw [he, Nat.zero_add, ← List.map_set] at hs
 have hgr := gb_setCell w' g (i * 2 + f) u
 refine ⟨rs.set i r', r', by simpa using h1, by simp [hi], fun x hx => ?_, hs, h5.grown hgr fun r hr => by cases hr; omega, gb_then h6 hgr fun r hr => by cases hr; exact hg⟩
 rcases List.mem_or_eq_of_mem_set hx with hx | rfl
 ·exact h3 x hx
 ·exact hr'
theorem FwS.slot {w : World} {B g m i n : Nat} {w' : World} (h : FwS w B g m i n w') (hB : B < w.heap.size) (hg : w.heap.size ≤ g) (k : ByteArray) (hk : k.size ≤ 1000) : FwS w B g m i n (w'.setCell ⟨g, i * 2, none⟩ (.string k)) :=
 h.put hB hg 0 _ (by omega) fun r hr => ⟨{ r with slot := k }, ⟨hk, hr.2⟩, rfl⟩
theorem FwS.who {w : World} {B g m i n : Nat} {w' : World} (h : FwS w B g m i n w') (hB : B < w.heap.size) (hg : w.heap.size ≤ g) (k : ByteArray) (hk : k.size ≤ 1000) : FwS w B g m i n (w'.setCell ⟨g, i * 2 + 1, none⟩ (.string k)) :=
 h.put hB hg 1 _ (by omega) fun r hr => ⟨{ r with who := k }, ⟨hr.1, hk⟩, rfl⟩
def SomeFi (lo : Nat) (w : World) (v : Value) : Prop := ∃ fs : List FiD, Fis w lo v fs ∧ fs.length ≤ 4 ∧ ∀ f ∈ fs, SmallFi f
theorem FwS.made {w : World} {B g m i n c : Nat} {w' : World} (h : FwS w B g m i n w') (hm : m ≤ 4) (hc : m ≤ c) (hg : w.heap.size ≤ g) : SomeFi w.heap.size w' (.slice (some ⟨g, 0, none⟩) m c) := by
 obtain ⟨rs, r, h1, h2, h3, h4, h5, h6⟩ := h
 refine ⟨rs, ?_, by omega, h3⟩
 have := h4.rows (lo := w.heap.size) (cap := c) (by simp; omega) hg (by simp; omega)
 rw [List.length_map, h1] at this
 exact this
theorem fws_box3 {w : World} {B g m i n : Nat} {w' : World} (h : FwS w B g m i n w') (a b c : ByteArray) :
  ∃ v W, Value.slice (some ⟨w'.heap.size, 0, none⟩) 3 3 = v ∧ w'.alloc (.cells #[.string a, .string b, .string c] 9) = W ∧ Strs W w'.heap.size v [a, b, c] ∧ B < w'.heap.size ∧ FwS w B g m i n W ∧ Below w'.heap.size w' W :=
 ⟨_, _, rfl, rfl, strs_new w' [a, b, c] (by simp), h.st.lt, h.alloc _, below_alloc _ _⟩
theorem fws_box4 {w : World} {B g m i n : Nat} {w' : World} (h : FwS w B g m i n w') (a b c d : ByteArray) :
  ∃ v W, Value.slice (some ⟨w'.heap.size, 0, none⟩) 4 4 = v ∧ w'.alloc (.cells #[.string a, .string b, .string c, .string d] 9) = W ∧ Strs W w'.heap.size v [a, b, c, d] ∧ B < w'.heap.size ∧ FwS w B g m i n W ∧ Below w'.heap.size w' W :=
 ⟨_, _, rfl, rfl, strs_new w' [a, b, c, d] (by simp), h.st.lt, h.alloc _, below_alloc _ _⟩
theorem share4 {A1 A2 A3 A4 : Sort _} {C G : A1 → A2 → A3 → A4 → Prop} {R : Prop} (main : (∀ x1 x2 x3 x4, C x1 x2 x3 x4 → G x1 x2 x3 x4) → R) (tail : ∀ x1 x2 x3 x4, C x1 x2 x3 x4 → G x1 x2 x3 x4) : R := main tail
set_option maxHeartbeats 1000000 in
theorem fills1_calls (lo : Nat) (xs : List ScD) (c : ScD) (x X5 X13 g off cap : Nat) (k : ByteArray) (w : World) (h5 : w.cell? ⟨X5, 0, none⟩ = some (.slice (some ⟨g, off, none⟩) xs.length cap)) (hC : Scs w lo (.slice (some ⟨g, off, none⟩) xs.length cap) xs)
  (h13 : w.cell? ⟨X13, 0, none⟩ = some (.int .i64 (x : Int))) (hx : xs[x]? = some c) :
  Calls Tryz.prog 44 #[.string k, .pointer (some ⟨X5, 0, none⟩), .pointer (some ⟨X13, 0, none⟩)] w (BoolIs (cnS c.pos k) w) := by
 rcases scs_at hC with ⟨h, _⟩ | ⟨g', off', cap', e, _, _, _, hcell⟩
 ·cases h
 simp only [Value.slice.injEq, Option.some.injEq, Addr.mk.injEq, and_true, true_and] at e
 obtain ⟨⟨rfl, rfl⟩, rfl⟩ := e
 have hlt : x < xs.length := (List.getElem?_eq_some_iff.1 hx).1
 have hlt' : (x : Int) < (xs.length : Int) := by omega
 obtain ⟨pv, q0, q1, q2, q3, q4, hpv⟩ := hcell x c hx
 have C := Lib.hid (contains_calls lo pv c.pos k w hpv)
 obtain ⟨pa, pc, rfl⟩ := strs_shape hpv
 clear hcell hx hC hpv q0 q2 q3 q4
 go_enter Tryz.func44, Tryz.ntmps44
 go_wp2_with fail
 refine C.out.mono ?_
 rintro e w1 ⟨rfl, rfl⟩
 go_wp2_with fail
 go_ret
 exact ⟨rfl, Below.refl _ _⟩
/-- What stands while fills are drawn: the box of the scorers, the map, the stream. -/
def FlS (w : World) (B nb n : Nat) (v : Value) (w' : World) : Prop :=
 St w' B n ∧ w.grownBy w' (some B) ∧ w'.heap[w.heap.size]? = some (.cells #[v] 28 (0, 0)) ∧ BMap w' (w.heap.size + 1) nb
theorem FlS.mono {w w' : World} {B nb n nb' n' : Nat} {v : Value} (h : FlS w B nb n v w') (h1 : nb ≤ nb') (h2 : n ≤ n') : FlS w B nb' n' v w' := ⟨h.1.mono h2, h.2.1, h.2.2.1, h.2.2.2.mono h1⟩
theorem FlS.step {w w' w'' : World} {B nb n k : Nat} {v : Value} (h : FlS w B nb n v w') (hB : B < w.heap.size) (hs : St w'' B k) (hg : w'.grownBy w'' (some B)) : FlS w B nb k v w'' :=
 ⟨hs, gb_trans h.2.1 hg, heap_gb h.2.2.1 hg (by omega), h.2.2.2.kept hg (by simp; omega)⟩
theorem FlS.below {w w' w'' : World} {B nb n : Nat} {v : Value} (h : FlS w B nb n v w') (hb : Below w'.heap.size w' w'') : FlS w B nb n v w'' :=
 ⟨h.1.below hb, gb_trans h.2.1 (gb_below hb _), (hb.block _ (lt_of_heap h.2.2.1)).trans h.2.2.1, h.2.2.2.below hb⟩
theorem FlS.grown {w w' w'' : World} {B nb n : Nat} {v : Value} {row : Option Nat} (h : FlS w B nb n v w') (hB : B < w.heap.size) (hg : w'.grownBy w'' row) (hr : ∀ r, row = some r → w.heap.size + 2 ≤ r) : FlS w B nb n v w'' :=
 ⟨h.1.grown hg fun r e => by have := hr r e; omega, gb_then h.2.1 hg fun r e => by have := hr r e; omega, (hg.block _ (lt_of_heap h.2.2.1) fun e => by have := hr _ e.symm; omega).trans h.2.2.1, h.2.2.2.kept hg fun e => by have := hr _ e.symm; omega⟩
theorem FlS.put {w w' w'' : World} {B nb nb' n : Nat} {v : Value} (h : FlS w B nb n v w') (hB : B < w.heap.size) (hm : BMap w'' (w.heap.size + 1) nb') (hg : w'.grownBy w'' (some (w.heap.size + 1))) : FlS w B nb' n v w'' :=
 ⟨h.1.grown hg fun r e => by cases e; omega, gb_then h.2.1 hg fun r e => by cases e; omega, (hg.block _ (lt_of_heap h.2.2.1) (by simp)).trans h.2.2.1, hm⟩
def ops_7_19 : Array Go.Oper := #[
 ⟨some 84, .move (.tmp 15), 84, "h10_players.go:306", #[], none⟩,
 ⟨some 85, .move (.tmp 15), 84, "h10_players.go:306", #[⟨18, .gcOnly .lateStores⟩], none⟩,
 ⟨some 86, .move (.tmp 0), 23, "h10_players.go:306", #[], none⟩,
 ⟨some 87, .move (.tmp 15), 84, "h10_players.go:306", #[], none⟩,
 ⟨some 88, .nilCheck (.tmp 87), 0, "h10_players.go:306", #[⟨3, .data⟩], none⟩,
 ⟨some 89, .fieldAddr 49 (.tmp 88) 0, 0, "h10_players.go:306", #[⟨4, .data⟩], none⟩,
 ⟨some 90, .load 9 (.tmp 89), 9, "h10_players.go:306", #[⟨5, .data⟩], none⟩,
 ⟨some 91, .move (.tmp 15), 84, "h10_players.go:306", #[], none⟩,
 ⟨some 92, .nilCheck (.tmp 91), 0, "h10_players.go:306", #[⟨7, .data⟩], none⟩,
 ⟨some 93, .fieldAddr 49 (.tmp 92) 0, 0, "h10_players.go:306", #[⟨8, .data⟩], none⟩,
 ⟨some 94, .load 9 (.tmp 93), 9, "h10_players.go:306", #[⟨9, .data⟩], none⟩,
 ⟨some 95, .buildSlice 39 3 #[(0, .tmp 90), (1, .tmp 94), (2, .const (.string { data := #[122, 122] }))], 39, "h10_players.go:306", #[⟨6, .data⟩, ⟨10, .data⟩], none⟩,
 ⟨some 96, .call { callee := .value (.func 8), args := #[.tmp 86, .tmp 95], argTypes := #[23, 39] }, 9, "h10_players.go:306", #[⟨2, .data⟩, ⟨11, .data⟩], none⟩,
 ⟨some 97, .move (.tmp 0), 23, "h10_players.go:306", #[], none⟩,
 ⟨some 98, .buildSlice 39 4 #[(0, .const (.string { data := #[97, 110, 110] })), (1, .const (.string { data := #[98, 101, 97] })), (2, .const (.string { data := #[122, 101, 100] })), (3, .const (.string { data := #[] }))], 39, "h10_players.go:306", #[], none⟩,
 ⟨some 99, .call { callee := .value (.func 8), args := #[.tmp 97, .tmp 98], argTypes := #[23, 39] }, 9, "h10_players.go:306", #[⟨13, .data⟩, ⟨14, .data⟩, ⟨12, .chain⟩], none⟩,
 ⟨some 100, .nilCheck (.tmp 84), 0, "h10_players.go:306", #[⟨0, .data⟩, ⟨0, .phase⟩, ⟨1, .textOnly .lateStores⟩, ⟨2, .phase⟩, ⟨3, .phase⟩, ⟨4, .phase⟩, ⟨5, .phase⟩, ⟨6, .phase⟩, ⟨7, .phase⟩, ⟨8, .phase⟩, ⟨9, .phase⟩, ⟨10, .phase⟩, ⟨11, .phase⟩, ⟨12, .phase⟩, ⟨13, .textOnly .lateStores⟩, ⟨14, .textOnly .lateStoresUnsure⟩, ⟨15, .phase⟩], none⟩,
 ⟨some 101, .fieldAddr 49 (.tmp 100) 0, 0, "h10_players.go:306", #[⟨16, .data⟩, ⟨0, .phase⟩, ⟨1, .textOnly .lateStores⟩, ⟨2, .phase⟩, ⟨3, .phase⟩, ⟨4, .phase⟩, ⟨5, .phase⟩, ⟨6, .phase⟩, ⟨7, .phase⟩, ⟨8, .phase⟩, ⟨9, .phase⟩, ⟨10, .phase⟩, ⟨11, .phase⟩, ⟨12, .phase⟩, ⟨13, .textOnly .lateStores⟩, ⟨14, .textOnly .lateStoresUnsure⟩, ⟨15, .phase⟩], none⟩,
 ⟨none, .store 9 (.tmp 101) (.tmp 96), 0, "h10_players.go:306", #[⟨17, .data⟩, ⟨12, .data⟩, ⟨15, .chain⟩, ⟨0, .phase⟩, ⟨1, .textOnly .lateStores⟩, ⟨2, .phase⟩, ⟨3, .phase⟩, ⟨4, .phase⟩, ⟨5, .phase⟩, ⟨6, .phase⟩, ⟨7, .phase⟩, ⟨8, .phase⟩, ⟨9, .phase⟩, ⟨10, .phase⟩, ⟨11, .phase⟩, ⟨12, .phase⟩, ⟨13, .textOnly .lateStores⟩, ⟨14, .textOnly .lateStoresUnsure⟩, ⟨15, .phase⟩], none⟩,
 ⟨some 102, .nilCheck (.tmp 85), 0, "h10_players.go:306", #[⟨1, .data⟩, ⟨0, .phase⟩, ⟨1, .phase⟩, ⟨2, .phase⟩, ⟨3, .phase⟩, ⟨4, .phase⟩, ⟨5, .phase⟩, ⟨6, .phase⟩, ⟨7, .phase⟩, ⟨8, .phase⟩, ⟨9, .phase⟩, ⟨10, .phase⟩, ⟨11, .phase⟩, ⟨12, .phase⟩, ⟨13, .phase⟩, ⟨14, .phase⟩, ⟨15, .phase⟩, ⟨16, .phase⟩, ⟨17, .phase⟩, ⟨18, .phase⟩], none⟩,
 ⟨some 103, .fieldAddr 49 (.tmp 102) 1, 0, "h10_players.go:306", #[⟨19, .data⟩, ⟨0, .phase⟩, ⟨1, .phase⟩, ⟨2, .phase⟩, ⟨3, .phase⟩, ⟨4, .phase⟩, ⟨5, .phase⟩, ⟨6, .phase⟩, ⟨7, .phase⟩, ⟨8, .phase⟩, ⟨9, .phase⟩, ⟨10, .phase⟩, ⟨11, .phase⟩, ⟨12, .phase⟩, ⟨13, .phase⟩, ⟨14, .phase⟩, ⟨15, .phase⟩, ⟨16, .phase⟩, ⟨17, .phase⟩, ⟨18, .phase⟩], none⟩,
 ⟨none, .store 9 (.tmp 103) (.tmp 99), 0, "h10_players.go:306", #[⟨20, .data⟩, ⟨15, .data⟩, ⟨18, .chain⟩, ⟨0, .phase⟩, ⟨1, .phase⟩, ⟨2, .phase⟩, ⟨3, .phase⟩, ⟨4, .phase⟩, ⟨5, .phase⟩, ⟨6, .phase⟩, ⟨7, .phase⟩, ⟨8, .phase⟩, ⟨9, .phase⟩, ⟨10, .phase⟩, ⟨11, .phase⟩, ⟨12, .phase⟩, ⟨13, .phase⟩, ⟨14, .phase⟩, ⟨15, .phase⟩, ⟨16, .phase⟩, ⟨17, .phase⟩, ⟨18, .phase⟩], none⟩]
theorem ops_7_19_0 : ops_7_19[0]? = some (⟨some 84, .move (.tmp 15), 84, "h10_players.go:306", #[], none⟩ : Go.Oper) := rfl
theorem ops_7_19_1 : ops_7_19[1]? = some (⟨some 85, .move (.tmp 15), 84, "h10_players.go:306", #[⟨18, .gcOnly .lateStores⟩], none⟩ : Go.Oper) := rfl
theorem ops_7_19_2 : ops_7_19[2]? = some (⟨some 86, .move (.tmp 0), 23, "h10_players.go:306", #[], none⟩ : Go.Oper) := rfl
theorem ops_7_19_3 : ops_7_19[3]? = some (⟨some 87, .move (.tmp 15), 84, "h10_players.go:306", #[], none⟩ : Go.Oper) := rfl
theorem ops_7_19_4 : ops_7_19[4]? = some (⟨some 88, .nilCheck (.tmp 87), 0, "h10_players.go:306", #[⟨3, .data⟩], none⟩ : Go.Oper) := rfl
theorem ops_7_19_5 : ops_7_19[5]? = some (⟨some 89, .fieldAddr 49 (.tmp 88) 0, 0, "h10_players.go:306", #[⟨4, .data⟩], none⟩ : Go.Oper) := rfl
theorem ops_7_19_6 : ops_7_19[6]? = some (⟨some 90, .load 9 (.tmp 89), 9, "h10_players.go:306", #[⟨5, .data⟩], none⟩ : Go.Oper) := rfl
theorem ops_7_19_7 : ops_7_19[7]? = some (⟨some 91, .move (.tmp 15), 84, "h10_players.go:306", #[], none⟩ : Go.Oper) := rfl
theorem ops_7_19_8 : ops_7_19[8]? = some (⟨some 92, .nilCheck (.tmp 91), 0, "h10_players.go:306", #[⟨7, .data⟩], none⟩ : Go.Oper) := rfl
theorem ops_7_19_9 : ops_7_19[9]? = some (⟨some 93, .fieldAddr 49 (.tmp 92) 0, 0, "h10_players.go:306", #[⟨8, .data⟩], none⟩ : Go.Oper) := rfl
theorem ops_7_19_10 : ops_7_19[10]? = some (⟨some 94, .load 9 (.tmp 93), 9, "h10_players.go:306", #[⟨9, .data⟩], none⟩ : Go.Oper) := rfl
theorem ops_7_19_11 : ops_7_19[11]? = some (⟨some 95, .buildSlice 39 3 #[(0, .tmp 90), (1, .tmp 94), (2, .const (.string { data := #[122, 122] }))], 39, "h10_players.go:306", #[⟨6, .data⟩, ⟨10, .data⟩], none⟩ : Go.Oper) := rfl
theorem ops_7_19_12 : ops_7_19[12]? = some (⟨some 96, .call { callee := .value (.func 8), args := #[.tmp 86, .tmp 95], argTypes := #[23, 39] }, 9, "h10_players.go:306", #[⟨2, .data⟩, ⟨11, .data⟩], none⟩ : Go.Oper) := rfl
theorem ops_7_19_13 : ops_7_19[13]? = some (⟨some 97, .move (.tmp 0), 23, "h10_players.go:306", #[], none⟩ : Go.Oper) := rfl
theorem ops_7_19_14 : ops_7_19[14]? = some (⟨some 98, .buildSlice 39 4 #[(0, .const (.string { data := #[97, 110, 110] })), (1, .const (.string { data := #[98, 101, 97] })), (2, .const (.string { data := #[122, 101, 100] })), (3, .const (.string { data := #[] }))], 39, "h10_players.go:306", #[], none⟩ : Go.Oper) := rfl
theorem ops_7_19_15 : ops_7_19[15]? = some (⟨some 99, .call { callee := .value (.func 8), args := #[.tmp 97, .tmp 98], argTypes := #[23, 39] }, 9, "h10_players.go:306", #[⟨13, .data⟩, ⟨14, .data⟩, ⟨12, .chain⟩], none⟩ : Go.Oper) := rfl
theorem ops_7_19_16 : ops_7_19[16]? = some (⟨some 100, .nilCheck (.tmp 84), 0, "h10_players.go:306", #[⟨0, .data⟩, ⟨0, .phase⟩, ⟨1, .textOnly .lateStores⟩, ⟨2, .phase⟩, ⟨3, .phase⟩, ⟨4, .phase⟩, ⟨5, .phase⟩, ⟨6, .phase⟩, ⟨7, .phase⟩, ⟨8, .phase⟩, ⟨9, .phase⟩, ⟨10, .phase⟩, ⟨11, .phase⟩, ⟨12, .phase⟩, ⟨13, .textOnly .lateStores⟩, ⟨14, .textOnly .lateStoresUnsure⟩, ⟨15, .phase⟩], none⟩ : Go.Oper) := rfl
theorem ops_7_19_17 : ops_7_19[17]? = some (⟨some 101, .fieldAddr 49 (.tmp 100) 0, 0, "h10_players.go:306", #[⟨16, .data⟩, ⟨0, .phase⟩, ⟨1, .textOnly .lateStores⟩, ⟨2, .phase⟩, ⟨3, .phase⟩, ⟨4, .phase⟩, ⟨5, .phase⟩, ⟨6, .phase⟩, ⟨7, .phase⟩, ⟨8, .phase⟩, ⟨9, .phase⟩, ⟨10, .phase⟩, ⟨11, .phase⟩, ⟨12, .phase⟩, ⟨13, .textOnly .lateStores⟩, ⟨14, .textOnly .lateStoresUnsure⟩, ⟨15, .phase⟩], none⟩ : Go.Oper) := rfl
theorem ops_7_19_18 : ops_7_19[18]? = some (⟨none, .store 9 (.tmp 101) (.tmp 96), 0, "h10_players.go:306", #[⟨17, .data⟩, ⟨12, .data⟩, ⟨15, .chain⟩, ⟨0, .phase⟩, ⟨1, .textOnly .lateStores⟩, ⟨2, .phase⟩, ⟨3, .phase⟩, ⟨4, .phase⟩, ⟨5, .phase⟩, ⟨6, .phase⟩, ⟨7, .phase⟩, ⟨8, .phase⟩, ⟨9, .phase⟩, ⟨10, .phase⟩, ⟨11, .phase⟩, ⟨12, .phase⟩, ⟨13, .textOnly .lateStores⟩, ⟨14, .textOnly .lateStoresUnsure⟩, ⟨15, .phase⟩], none⟩ : Go.Oper) := rfl
theorem ops_7_19_19 : ops_7_19[19]? = some (⟨some 102, .nilCheck (.tmp 85), 0, "h10_players.go:306", #[⟨1, .data⟩, ⟨0, .phase⟩, ⟨1, .phase⟩, ⟨2, .phase⟩, ⟨3, .phase⟩, ⟨4, .phase⟩, ⟨5, .phase⟩, ⟨6, .phase⟩, ⟨7, .phase⟩, ⟨8, .phase⟩, ⟨9, .phase⟩, ⟨10, .phase⟩, ⟨11, .phase⟩, ⟨12, .phase⟩, ⟨13, .phase⟩, ⟨14, .phase⟩, ⟨15, .phase⟩, ⟨16, .phase⟩, ⟨17, .phase⟩, ⟨18, .phase⟩], none⟩ : Go.Oper) := rfl
theorem ops_7_19_20 : ops_7_19[20]? = some (⟨some 103, .fieldAddr 49 (.tmp 102) 1, 0, "h10_players.go:306", #[⟨19, .data⟩, ⟨0, .phase⟩, ⟨1, .phase⟩, ⟨2, .phase⟩, ⟨3, .phase⟩, ⟨4, .phase⟩, ⟨5, .phase⟩, ⟨6, .phase⟩, ⟨7, .phase⟩, ⟨8, .phase⟩, ⟨9, .phase⟩, ⟨10, .phase⟩, ⟨11, .phase⟩, ⟨12, .phase⟩, ⟨13, .phase⟩, ⟨14, .phase⟩, ⟨15, .phase⟩, ⟨16, .phase⟩, ⟨17, .phase⟩, ⟨18, .phase⟩], none⟩ : Go.Oper) := rfl
theorem ops_7_19_21 : ops_7_19[21]? = some (⟨none, .store 9 (.tmp 103) (.tmp 99), 0, "h10_players.go:306", #[⟨20, .data⟩, ⟨15, .data⟩, ⟨18, .chain⟩, ⟨0, .phase⟩, ⟨1, .phase⟩, ⟨2, .phase⟩, ⟨3, .phase⟩, ⟨4, .phase⟩, ⟨5, .phase⟩, ⟨6, .phase⟩, ⟨7, .phase⟩, ⟨8, .phase⟩, ⟨9, .phase⟩, ⟨10, .phase⟩, ⟨11, .phase⟩, ⟨12, .phase⟩, ⟨13, .phase⟩, ⟨14, .phase⟩, ⟨15, .phase⟩, ⟨16, .phase⟩, ⟨17, .phase⟩, ⟨18, .phase⟩], none⟩ : Go.Oper) := rfl
set_option maxRecDepth 100000 in
set_option maxHeartbeats 16000000 in
theorem fills_calls (B N lo lo' : Nat) (v u : Value) (ss : List SlD) (xs : List ScD) (w : World) (hs : St w B N) (hN : N ≤ 3970000) (hS : Sls w lo v ss) (hlo : B < lo) (hn : ss.length ≤ 4) (hsm : ∀ s ∈ ss, SmallSl s) (hC : Scs w lo' u xs) (hlo' : B < lo') (hm : xs.length ≤ 6) (hcm : ∀ c ∈ xs, SmallSc c) :
  Calls Tryz.prog 7 #[.pointer (some ⟨B, 0, none⟩), v, u] w (Made B (N + 80) (SomeFi w.heap.size) w) := by
 obtain ⟨i0, hi0, hz0, hz1, hz2⟩ := info_parts info_fil
 have hmm := @run_makeMap Tryz.prog
 have hBw := hs.lt
 have HI := Lib.hid hi0
 have HS := Lib.hid hS
 have HC := Lib.hid hC
 have Hsm := Lib.hid hsm
 have Hcm := Lib.hid hcm
 obtain ⟨a, c, rfl⟩ := NRows.shape hS
 obtain ⟨a', c', rfl⟩ := NRows.shape hC
 obtain ⟨n, hn'⟩ : ∃ n, n = ss.length := ⟨_, rfl⟩
 have Hn := Lib.hid hn'
 obtain ⟨m, hm'⟩ : ∃ m, m = xs.length := ⟨_, rfl⟩
 have Hm := Lib.hid hm'
 rw [← hn'] at hn ⊢
 rw [← hm'] at hm ⊢
 have hb1 := below_alloc w (.cells #[.slice a' m c'] 28)
 obtain ⟨w3, hput, hB3, hg3⟩ := (BMap.made (w.alloc (.cells #[.slice a' m c'] 28))).put (by omega) ⟨#[]⟩ (by decide) true
 have hX0 : FlS w B 1 N (.slice a' m c') w3 := by
  have h2 : FlS w B 0 N (.slice a' m c') ((w.alloc (.cells #[.slice a' m c'] 28)).alloc (.map #[] 0)) :=
   ⟨(hs.alloc _).alloc _, gb_trans (gb_alloc w _ _) (gb_alloc _ _ _), heap_al (heap_alloc_new w _) _, by simpa using BMap.made (w.alloc (.cells #[.slice a' m c'] 28))⟩
  exact h2.put hBw (by simpa using hB3) (by simpa using hg3)
 have hz3 : w.heap.size + 2 ≤ w3.heap.size := by have := hg3.size; simpa using this
 simp only [World.size_alloc] at hput
 clear hS hC hsm hcm hn' hm' hs hi0 hB3 hg3 hb1
 go_enter Tryz.func7, Tryz.ntmps7
 go_wp2_with fail
 go_loopw [7, 20] (fun out i wr => ∃ (k : Nat) (fs : List FiD), k ≤ n ∧ i = .int .i64 k ∧ fs.length = k ∧ Hid (∀ f ∈ fs, SmallFi f) ∧ Hid (wr.ownsRow (w.heap.size + 2) 49 2 out fs.length (fs.map fiRow).flatten) ∧ FlS w B (k + 1) (N + 12 * k) (.slice a' m c') wr) (fun _ i _ => n - (intOf i).toNat)
 case atStart => exact ⟨0, [], by omega, rfl, rfl, Lib.hid (by simp), Lib.hid (World.ownsRow_nil _ _ _ _), hX0⟩
 case round =>
  clear hput hX0 hz3
  obtain ⟨k, fs, hk, rfl, hfl, Hfs, Hown, hX⟩ := hrel
  by_cases hlt : k < n
  ·have hlt' : (k : Int) < (n : Int) := by omega
   obtain ⟨s, hs⟩ : ∃ s, ss[k]? = some s := ⟨_, List.getElem?_eq_getElem (by have := Hn.out; omega)⟩
   rcases sls_at (NRows.other HS.out hX.2.1 hlo) with ⟨_, h⟩ | ⟨g, off, cap, e, _, hg, _, hcell⟩
   ·have := Hn.out; rw [h] at this; simp at this; omega
   simp only [Value.slice.injEq] at e
   obtain ⟨rfl, -, rfl⟩ := e
   obtain ⟨pv, q0, q1, hpv⟩ := hcell k s hs
   have Hpv := Lib.hid hpv
   obtain ⟨pa, pc, rfl⟩ := strs_shape hpv
   have Hss := Lib.hid (Hsm.out s (List.mem_of_getElem? hs))
   obtain ⟨-, -, hbx, -⟩ := id hX
   have b0 := cell_at hbx 0 rfl
   clear hcell hs hpv
   go_upto_region 7 with fail
   obtain ⟨wA, hwA⟩ : ∃ wA, wA = (wr.alloc (.cells #[.string s.key, .slice pa s.pos.length pc] 72)).alloc (.cells #[.string s.key, .string ⟨#[]⟩] 49) := ⟨_, rfl⟩
   have hbA : Below wr.heap.size wr wA := by rw [hwA]; exact (below_alloc wr _).trans ((below_alloc _ _).mono (by simp))
   have hx0 : wA.heap[wr.heap.size]? = some (.cells #[.string s.key, .slice pa s.pos.length pc] 72 (0, 0)) := by rw [hwA]; exact heap_al (heap_alloc_new wr _) _
   have hx1 : wA.heap[wr.heap.size + 1]? = some (.cells #[.string s.key, .string ⟨#[]⟩] 49 (0, 0)) := by
    have := heap_alloc_new (wr.alloc (.cells #[.string s.key, .slice pa s.pos.length pc] 72)) (.cells #[.string s.key, .string ⟨#[]⟩] 49)
    rw [World.size_alloc] at this
    rw [hwA]; exact this
   have hzA : wr.heap.size + 2 ≤ wA.heap.size := by rw [hwA]; simp
   have hzr : w.heap.size ≤ wr.heap.size := hX.2.1.size
   have hbB : w.heap.size + 1 < wr.heap.size := hX.2.2.2.lt
   rw [← hwA]
   replace hX := hX.below hbA
   have Hown0 := Hown
   have Hown := Lib.hid (own_below Hown.out hbA)
   replace Hpv := Lib.hid (Hpv.out.below hbA)
   obtain ⟨-, -, hbx, -⟩ := id hX
   have b0 := cell_at hbx 0 rfl
   have Hob := Lib.hid (show ∀ r, u7.ownBlock = some r → r < wr.heap.size from fun r e => by obtain ⟨_, cur, h⟩ := own_block Hown0.out r e; exact lt_of_heap h)
   generalize hX11 : wr.heap.size + 1 = X11 at hx1 hzA ⊢
   generalize hX10 : wr.heap.size = X10 at hx0 hX11 hzA hbB hzr Hob ⊢
   have hX12 : X10 < X11 := by omega
   have hX13 : X11 ≤ X10 + 1 := by omega
   clear Hown0 hwA hbA q0 q1 hX10 hX11
   go_wp2_with fail
   refine (order_calls B _ m wA hX.1 (by omega) (by omega)).mono ?_
   rintro e w2 ⟨v, hO, rfl, hs2, hg2⟩
   obtain ⟨oa, oc, rfl⟩ := hO.shape
   have HO := Lib.hid hO
   replace hX := hX.step hBw hs2 hg2
   have hx0 := heap_gb hx0 hg2 (by omega)
   have hx1 := heap_gb hx1 hg2 (by omega)
   have Hown := Lib.hid (Hown.out.kept hg2 (.inr fun e => by have := (own_block Hown.out B e).1; omega))
   have Hpv := Lib.hid (Hpv.out.other hg2 hlo)
   have hmA := hg2.size
   clear hO hs2 hg2 b0 hbx
   go_wp2_with fail
   go_loopw [32] (fun i wi => ∃ j : Nat, j ≤ m ∧ i = .int .i64 j ∧ St wi B (N + 12 * k + m + j) ∧ w2.grownBy wi (some B)) (fun i _ => m - (intOf i).toNat)
   case atStart => exact ⟨0, by omega, rfl, hX.1.mono (by omega), gb_refl _ _⟩
   case round =>
    obtain ⟨j, hj, rfl, hsi, hgi⟩ := hrel
    have hXi := hX.step hBw hsi hgi
    by_cases hlj : j < m
    ·have hlj' : (j : Int) < (m : Int) := by omega
     obtain ⟨og, oo, x, rfl, hog, hog1, hx, hcx⟩ := (HO.out.other hgi (by omega)).at hlj
     obtain ⟨sc, hsc⟩ : ∃ sc, xs[x]? = some sc := ⟨_, List.getElem?_eq_getElem (by have := Hm.out; omega)⟩
     have Hsc := Lib.hid hsc
     have hCi := NRows.other HC.out hXi.2.1 hlo'
     rcases scs_at hCi with ⟨_, h⟩ | ⟨sg, soff, scap, e, _, hsg, _, hcell⟩
     ·have := Hm.out; rw [h] at this; simp at this; omega
     simp only [Value.slice.injEq] at e
     obtain ⟨rfl, -, rfl⟩ := e
     have Hcell := Lib.hid hcell
     have y0 := heap_gb hx0 hgi (by omega)
     have y1 := heap_gb hx1 hgi (by omega)
     have p1 := cell_at y0 1 rfl
     have hpvi := Hpv.out.other hgi hlo
     have hxm : (x : Int) < (m : Int) := by omega
     have Hci := Lib.hid hCi
     clear hcell hsc hCi
     go_upto_region 10 with fail
     obtain ⟨wB, hwB⟩ : ∃ wB, wB = wr.alloc (.cells #[.int .i64 (x : Int)] 3) := ⟨_, rfl⟩
     have hbB' : Below wr.heap.size wr wB := by rw [hwB]; exact below_alloc wr _
     have hx13 : wB.heap[wr.heap.size]? = some (.cells #[.int .i64 (x : Int)] 3 (0, 0)) := by rw [hwB]; exact heap_alloc_new wr _
     rw [← hwB]
     have hXB := hXi.below hbB'
     have p1 := below_cell hbB' p1
     have z13 := cell_at hx13 0 rfl
     have z5 := cell_at hXB.2.2.1 0 rfl
     have Hci := Lib.hid (NRows.below Hci.out hbB')
     have Hcn := Lib.hid (show m = xs.length from Hm.out)
     have CF := Lib.hid (containsSF_calls 44 #[.pointer (some ⟨w.heap.size, 0, none⟩), .pointer (some ⟨wr.heap.size, 0, none⟩)] (fun k => cnS sc.pos k) lo _ s.pos wB (hpvi.below hbB') (by intro args w; go_simp) (fun W k _ hb => fills1_calls lo' xs sc x w.heap.size wr.heap.size sg soff c' k W (by have := below_cell hb z5; rw [Hcn.out] at this; exact this) (NRows.below Hci.out hb) (below_cell hb z13) Hsc.out))
     generalize s.pos.any (fun k => cnS sc.pos k) = fb at CF
     have hx13' := Lib.hid hx13
     have Hy0 := Lib.hid y0
     have Hy1 := Lib.hid (show wB.heap[X11]? = some (.cells #[.string s.key, .string ⟨#[]⟩] 49 (0, 0)) from (hbB'.block _ (lt_of_heap y1)).trans y1)
     have hgB := gb_trans hgi (gb_below hbB' (some B))
     clear z13 z5 hpvi hwB hx13 y0 y1 hcx hXi hsi hgi
     go_wp2_with fail
     refine CF.out.mono ?_
     rintro e w4 ⟨rfl, hb4⟩
     have hX4 := hXB.below hb4
     have hg4 := gb_trans hgB (gb_below hb4 (some B))
     have hx13 := cells_later hx13'.out hb4
     have hy1 := cells_later Hy1.out hb4
     obtain ⟨_, q0, _⟩ := Hcell.out x sc Hsc.out
     have q0 := below_cell hb4 (below_cell hbB' q0)
     have r5 := cell_at hX4.2.2.1 0 rfl
     have r13 := cell_at hx13 0 rfl
     have hwho : sc.who.size ≤ 1000 := (Hcm.out sc (List.mem_of_getElem? Hsc.out)).1
     obtain ⟨ub, hlook⟩ := hX4.2.2.2.look sc.who (by omega)
     have Hlk := Lib.hid hlook
     clear CF hb4 hbB' hgB hXB Hy1 hx13' p1
     cases fb
     ·clear hlook
      go_wp2_with fail
      go_roundw
      case rel => exact ⟨j + 1, by omega, by go_num, hX4.1.mono (by omega), hg4⟩
      case measure => simp [intOf]; omega
     ·cases ub
      ·go_wp2_with fail
       refine (flip_calls B _ 4 w4 hX4.1 (by omega) (by omega) (by omega)).mono ?_
       rintro e w5 ⟨v, ⟨fb, rfl⟩, rfl, hs5, hg5⟩
       have hX5 := hX4.step hBw hs5 hg5
       have q0 := gb_cell hg5 q0 (by omega)
       have r5 := cell_at hX5.2.2.1 0 rfl
       have r13 := gb_cell hg5 r13 (by omega)
       have hy5 := heap_gb hy1 hg5 (by omega)
       have f1 := free_of hy5 1
       have y1 := cell_at hy5 1 rfl
       clear hlook Hlk
       cases fb
       ·go_upto_region 14 with fail
        have hgt := gb_setCell w5 X11 1 (.string sc.who)
        have hXt := hX5.grown hBw hgt fun r e => by cases e; omega
        have hyt : (w5.setCell ⟨X11, 1, none⟩ (.string sc.who)).heap[X11]? = some (.cells #[.string s.key, .string sc.who] 49 (0, 0)) := by simp [World.setCell, Array.getElem?_modify, hy5]
        have hown5 := (Hown.out.kept (gb_trans hg4 hg5) (.inr fun e => by have := (own_block Hown.out B e).1; omega)).kept hgt (.inr fun e => by have := Hob.out _ e; omega)
        clear hX4 hX5 hy1 hy5 f1 y1 r5 r13 q0 hs5 hg5 hg4 hgt hx13
        have t0 := cell_at hyt 0 rfl
        have t1 := cell_at hyt 1 rfl
        have hownT := hown5
        obtain ⟨w6, hput6, hB6, hg6⟩ := hXt.2.2.2.put (by omega) sc.who (by omega) true
        have c0 := gb_cell hg6 t0 (by omega)
        have c1 := gb_cell hg6 t1 (by omega)
        have hown6 := hownT.kept hg6 (.inr fun e => by have := (own_block hownT _ e).1; omega)
        have hX6 := hXt.put hBw hB6 hg6
        have hz6 := hX6.2.1.size
        have hz7 := hX6.2.2.2.lt
        have hi0 := HI.out
        clear hownT
        go_wp2_with (at_builtin; refine wpList_append_own _ rfl _ _ 30 rfl (w.heap.size + 2) 49 i0 (.agg #[.string ⟨#[]⟩, .string ⟨#[]⟩]) 2 32 Tryz.underlying30 hi0 hz0 hz1 hz2 rfl (by decide) _ _ _ rfl (hown6.alloc _) ⟨w6.heap.size, 0, none⟩ 1 1 [.string s.key, .string sc.who] rfl rfl ?c1 ?c2 ?c3 ?c4 ?c5 ?_)
        case c1 => exact cells_new _ _ _
        case c2 => simp [Value.oneCell']
        case c3 => unfold maxLen; omega
        case c4 => omega
        case c5 => simp; omega
        intro v' w8 hown8 hgrow _
        go_wp2_with fail
        go_roundw
        case rel =>
         refine ⟨k + 1, fs ++ [⟨s.key, sc.who⟩], by omega, by go_num, by simp [hfl], Lib.hid fun f hf => ?_, Lib.hid (by simpa [fiRow, hfl] using hown8), ((hX6.below (below_alloc w6 _)).grown hBw hgrow fun r hr => (own_block hown6 r hr).1).mono (by omega) (by omega)⟩
         rcases List.mem_append.1 hf with h | h
         ·exact Hfs.out f h
         ·obtain rfl := List.mem_singleton.1 h; exact ⟨Hss.out.1, (by omega)⟩
        case measure => simp [intOf]; omega
       ·clear f1 y1
        go_wp2_with fail
        go_roundw
        case rel => exact ⟨j + 1, by omega, by go_num, hs5.mono (by omega), gb_trans hg4 hg5⟩
        case measure => simp [intOf]; omega
      ·go_wp2_with fail
       go_roundw
       case rel => exact ⟨j + 1, by omega, by go_num, hX4.1.mono (by omega), hg4⟩
       case measure => simp [intOf]; omega
    ·obtain rfl : j = m := by omega
     have hy := heap_gb hx1 hgi (by omega)
     have hownI := Hown.out.kept hgi (.inr fun e => by have := (own_block Hown.out B e).1; omega)
     clear hsi hgi
     go_upto_region 14 with fail
     have t0 := cell_at hy 0 rfl
     have t1 := cell_at hy 1 rfl
     have hownT := hownI
     obtain ⟨w6, hput6, hB6, hg6⟩ := hXi.2.2.2.put (by omega) ⟨#[]⟩ (by decide) true
     have c0 := gb_cell hg6 t0 (by omega)
     have c1 := gb_cell hg6 t1 (by omega)
     have hown6 := hownT.kept hg6 (.inr fun e => by have := (own_block hownT _ e).1; omega)
     have hX6 := hXi.put hBw hB6 hg6
     have hz6 := hX6.2.1.size
     have hz7 := hX6.2.2.2.lt
     have hi0 := HI.out
     clear hownT
     go_wp2_with (at_builtin; refine wpList_append_own _ rfl _ _ 30 rfl (w.heap.size + 2) 49 i0 (.agg #[.string ⟨#[]⟩, .string ⟨#[]⟩]) 2 32 Tryz.underlying30 hi0 hz0 hz1 hz2 rfl (by decide) _ _ _ rfl (hown6.alloc _) ⟨w6.heap.size, 0, none⟩ 1 1 [.string s.key, .string ⟨#[]⟩] rfl rfl ?c1 ?c2 ?c3 ?c4 ?c5 ?_)
     case c1 => exact cells_new _ _ _
     case c2 => simp [Value.oneCell']
     case c3 => unfold maxLen; omega
     case c4 => omega
     case c5 => simp; omega
     intro v' w8 hown8 hgrow _
     go_wp2_with fail
     go_roundw
     case rel =>
      refine ⟨k + 1, fs ++ [⟨s.key, ⟨#[]⟩⟩], by omega, by go_num, by simp [hfl], Lib.hid fun f hf => ?_, Lib.hid (by simpa [fiRow, hfl] using hown8), ((hX6.below (below_alloc w6 _)).grown hBw hgrow fun r hr => (own_block hown6 r hr).1).mono (by omega) (by omega)⟩
      rcases List.mem_append.1 hf with h | h
      ·exact Hfs.out f h
      ·obtain rfl := List.mem_singleton.1 h; exact ⟨Hss.out.1, Nat.zero_le _⟩
     case measure => simp [intOf]; omega
  ·obtain rfl : k = n := by omega
   have hownR := Hown.out
   have hsr := hX.1
   have hgr := hX.2.1
   have hHR := Lib.hid (fis_of_owns (own_mono hownR (show w.heap.size ≤ w.heap.size + 2 by omega)) (show fs.length ≤ 1000000 by omega))
   rcases hownR.2 with ⟨rfl, hnil⟩ | ⟨g, cap, cur, rfl, hgb, hgc, hle, _⟩
   ·have hnil' : fs = [] := List.eq_nil_of_length_eq_zero hnil
    subst hnil'
    clear hownR hnil Hown hX hfl
    go_wp2_with fail
    go_ret
    exact ⟨_, ⟨[], hHR.out, by simp, Hfs.out⟩, rfl, hsr.mono (by omega), hgr⟩
   ·by_cases hz : fs.length = 0
    ·have hz' : fs = [] := List.eq_nil_of_length_eq_zero hz
     subst hz'
     clear hownR hz Hown hX hfl hgc
     go_wp2_with fail
     go_ret
     exact ⟨_, ⟨[], hHR.out, by simp, Hfs.out⟩, rfl, hsr.mono (by omega), hgr⟩
    ·obtain ⟨hat, _⟩ := RowsAt.of_owns (sz := 2) (rows := fs.map fiRow) (by simpa using hownR) (by simp [fiRow])
     have hne : g ≠ B := by omega
     have hgb' : w.heap.size ≤ g := by omega
     have Hat := Lib.hid hat
     have hpos : 0 < fs.length := by omega
     clear hownR hz Hown hX hat hgc Hn Hm
     have hq4 : fs.length ≤ 4 := by omega
     have Hfl := Lib.hid hfl
     clear hfl
     obtain ⟨q, hq⟩ : ∃ q, q = fs.length := ⟨_, rfl⟩
     have Hq := Lib.hid hq
     rw [← hq] at hpos hq4 hle ⊢
     clear hq
     have hpos1 : (0 : Int) < (q : Int) := by omega
     go_wp2_with fail
     refine (flip_calls B _ 12 _ hsr (by omega) (by omega) (by omega)).mono ?_
     rintro e w2 ⟨v, ⟨b, rfl⟩, rfl, hs2, hg2⟩
     cases b
     ·go_wp2_with fail
      go_ret
      exact ⟨_, ⟨fs, by have h := hHR.out; rw [← Hq.out] at h; exact h.other hg2 hBw, by rw [← Hq.out]; omega, Hfs.out⟩, rfl, hs2.mono (by omega), gb_trans hgr hg2⟩
     ·go_wp2_with fail
      refine (next_calls B _ q w2 hs2 (by omega) (by omega) (by omega)).mono ?_
      rintro e w3 ⟨v, ⟨i, rfl, hi⟩, rfl, hs3, hg3⟩
      have him : i < q := by omega
      have hW : FwS w B g q i _ w3 := ⟨fs, fs[i]'(by have := Hq.out; omega), Hq.out.symm, List.getElem?_eq_getElem _, Hfs.out, Hat.out.lift ((hg3.block g (by have := Hat.out.lt; have := hg2.size; omega) (by intro e; cases e; exact hne rfl)).trans (hg2.block g Hat.out.lt (by intro e; cases e; exact hne rfl))), hs3, gb_trans hgr (gb_trans hg2 hg3)⟩
      obtain ⟨r, hr, c0, -, -⟩ := hW.cells
      have Hr := Lib.hid hr
      clear hsr hs2 hs3 hgr hg2 hg3 Hat Hfs Hq hHR hr
      go_upto_region 19 with fail
      have hC : w3.drew.cell? ⟨g, i * 2, none⟩ = some (.string r.slot) := c0
      replace hW := hW.drew
      clear c0
      show Code.wp _ (Code.region 19 ops_7_19 true) _ _ _
      refine regionC_start 22 (fun w' => w'.cell? ⟨g, i * 2, none⟩ = some (.string r.slot)) (fun j => [6, 10, 14].contains j) (by kernel_rfl) rfl ?_
      generalize w3.drew = W4 at hW hC ⊢
      apply share4 (C := fun (v11 v14 : Value) (xk : ByteArray) (W : World) => xk.size ≤ 1000 ∧ FwS w B g q i (N + 70) W ∧ ∃ lo, Strs W lo v14 [⟨#[97, 110, 110]⟩, ⟨#[98, 101, 97]⟩, ⟨#[122, 101, 100]⟩, ⟨#[]⟩] ∧ B < lo)
      ·intro tail
       refine takeC 0 84 (v := ?_) ops_7_19_0 rfl (by kernel_rfl) (by kernel_rfl) (by kernel_rfl) (by rfl) (fun _ _ _ h => h) (by rfl) ?y0_1 ?_
       case y0_1 => intro w; go_simp; try with_reducible rfl
       simp only [sE0, sE1]
       refine takeC 1 85 (v := ?_) ops_7_19_1 rfl (by kernel_rfl) (by kernel_rfl) (by kernel_rfl) (by rfl) (fun _ _ _ h => h) (by rfl) ?y1_2 ?_
       case y1_2 => intro w; go_simp; try with_reducible rfl
       simp only [sE0, sE1]
       refine takeC 2 86 (v := ?_) ops_7_19_2 rfl (by kernel_rfl) (by kernel_rfl) (by kernel_rfl) (by rfl) (fun _ _ _ h => h) (by rfl) ?y2_3 ?_
       case y2_3 => intro w; go_simp; try with_reducible rfl
       simp only [sE0, sE1]
       refine takeC 3 87 (v := ?_) ops_7_19_3 rfl (by kernel_rfl) (by kernel_rfl) (by kernel_rfl) (by rfl) (fun _ _ _ h => h) (by rfl) ?y3_4 ?_
       case y3_4 => intro w; go_simp; try with_reducible rfl
       simp only [sE0, sE1]
       refine takeC 4 88 (v := ?_) ops_7_19_4 rfl (by kernel_rfl) (by kernel_rfl) (by kernel_rfl) (by rfl) (fun _ _ _ h => h) (by rfl) ?y4_5 ?_
       case y4_5 => intro w; go_simp; try with_reducible rfl
       simp only [sE0, sE1]
       refine takeC 5 89 (v := ?_) ops_7_19_5 rfl (by kernel_rfl) (by kernel_rfl) (by kernel_rfl) (by rfl) (fun _ _ _ h => h) (by rfl) ?y5_6 ?_
       case y5_6 => intro w; go_simp; try with_reducible rfl
       simp only [sE0, sE1]
       refine takeC 7 91 (v := ?_) ops_7_19_7 rfl (by kernel_rfl) (by kernel_rfl) (by kernel_rfl) (by rfl) (fun _ _ _ h => h) (by rfl) ?y7_7 ?_
       case y7_7 => intro w; go_simp; try with_reducible rfl
       simp only [sE0, sE1]
       refine takeC 8 92 (v := ?_) ops_7_19_8 rfl (by kernel_rfl) (by kernel_rfl) (by kernel_rfl) (by rfl) (fun _ _ _ h => h) (by rfl) ?y8_8 ?_
       case y8_8 => intro w; go_simp; try with_reducible rfl
       simp only [sE0, sE1]
       refine takeC 9 93 (v := ?_) ops_7_19_9 rfl (by kernel_rfl) (by kernel_rfl) (by kernel_rfl) (by rfl) (fun _ _ _ h => h) (by rfl) ?y9_9 ?_
       case y9_9 => intro w; go_simp; try with_reducible rfl
       simp only [sE0, sE1]
       refine takeC 13 97 (v := ?_) ops_7_19_13 rfl (by kernel_rfl) (by kernel_rfl) (by kernel_rfl) (by rfl) (fun _ _ _ h => h) (by rfl) ?y13_10 ?_
       case y13_10 => intro w; go_simp; try with_reducible rfl
       simp only [sE0, sE1]
       refine loadC 6 90 (v := ?_) ops_7_19_6 rfl (by kernel_rfl) (by kernel_rfl) (by kernel_rfl) (by kernel_rfl) (fun _ _ _ h => h) (by rfl) ?y6_11 (by exact hC) ?_
       case y6_11 => intro w hSw; (try dsimp only at hSw); go_simp; try with_reducible rfl
       simp only [sE0, sE1]
       refine loadC 10 94 (v := ?_) ops_7_19_10 rfl (by kernel_rfl) (by kernel_rfl) (by kernel_rfl) (by kernel_rfl) (fun _ _ _ h => h) (by rfl) ?y10_12 (by exact hC) ?_
       case y10_12 => intro w hSw; (try dsimp only at hSw); go_simp; try with_reducible rfl
       simp only [sE0, sE1]
       refine readyC (rs := [11, 14]) (by kernel_rfl) (by simp) (each_cons (runC ops_7_19_11 (by rfl) (fun K hK => ?_)) (each_cons (runC ops_7_19_14 (by rfl) (fun K hK => ?_)) each_nil))
       ·go_simp
        obtain ⟨v11, W11, e11, f11, hA11, hB11, hX11, hb11⟩ := fws_box3 hW r.slot r.slot ⟨#[122, 122]⟩
        rw [e11, f11]
        clear e11 f11
        replace hW := hX11
        try replace hA14 := hA14.below hb11
        try replace hC := below_cell hb11 hC
        clear hX11 hb11
        go_wp2_with fail
        refine hK.out _ _ (fun h => absurd h (by decide)) ?_
        clear hK K
        try simp only [Act.put, sEt, sE0, sE1]
        refine readyC (rs := [12, 14]) (by kernel_rfl) (by simp) (each_cons (runC ops_7_19_12 (by rfl) (fun K hK => ?_)) (each_cons (runC ops_7_19_14 (by rfl) (fun K hK => ?_)) each_nil))
        ·go_simp
         refine (some_calls B _ _ _ [r.slot, r.slot, ⟨#[122, 122]⟩] _ hW.st (by omega) hA11 hB11 (by simp)).mono ?_
         rintro e w' ⟨v, ⟨xk, rfl, hxk⟩, rfl, hs', hg'⟩
         have Hxk := Lib.hid (show xk.size ≤ 1000 from by simp only [List.mem_cons, List.not_mem_nil, or_false] at hxk; rcases hxk with rfl | rfl | rfl; (· exact Hr.out.1); (· exact Hr.out.1); (· exact by decide))
         try replace hA14 := hA14.other hg' hB14
         try replace hC := gb_cell hg' hC hne
         replace hW := hW.step hs' hg' hne
         clear hs' hg' hxk hA11 hB11
         go_wp2_with fail
         refine hK.out _ _ (fun h => absurd h (by decide)) ?_
         clear hK K
         try simp only [Act.put, sEt, sE0, sE1]
         refine readyC (rs := [14]) (by kernel_rfl) (by simp) (each_cons (runC ops_7_19_14 (by rfl) (fun K hK => ?_)) each_nil)
         go_simp
         obtain ⟨v14, W14, e14, f14, hA14, hB14, hX14, hb14⟩ := fws_box4 hW ⟨#[97, 110, 110]⟩ ⟨#[98, 101, 97]⟩ ⟨#[122, 101, 100]⟩ ⟨#[]⟩
         rw [e14, f14]
         clear e14 f14
         replace hW := hX14
         try replace hA11 := hA11.below hb14
         try replace hC := below_cell hb14 hC
         clear hX14 hb14
         go_wp2_with fail
         refine hK.out _ _ (fun _ => ?_) ?_
         ·(exact hC)
         clear hK K
         try simp only [Act.put, sEt, sE0, sE1]
         refine sameC (l' := (bQ 22 32767)) (by kernel_rfl) ?_
         first | exact tail v11 v14 xk W14 ⟨Hxk.out, hW.mono (show _ ≤ N + 70 by omega), ⟨_, hA14, hB14⟩⟩ | exact tail v11 v14 xk w' ⟨Hxk.out, hW.mono (show _ ≤ N + 70 by omega), ⟨_, hA14, hB14⟩⟩
        ·go_simp
         obtain ⟨v14, W14, e14, f14, hA14, hB14, hX14, hb14⟩ := fws_box4 hW ⟨#[97, 110, 110]⟩ ⟨#[98, 101, 97]⟩ ⟨#[122, 101, 100]⟩ ⟨#[]⟩
         rw [e14, f14]
         clear e14 f14
         replace hW := hX14
         try replace hA11 := hA11.below hb14
         try replace hC := below_cell hb14 hC
         clear hX14 hb14
         go_wp2_with fail
         refine hK.out _ _ (fun _ => ?_) ?_
         ·(exact hC)
         clear hK K
         try simp only [Act.put, sEt, sE0, sE1]
         refine readyC (rs := [12]) (by kernel_rfl) (by simp) (each_cons (runC ops_7_19_12 (by rfl) (fun K hK => ?_)) each_nil)
         go_simp
         refine (some_calls B _ _ _ [r.slot, r.slot, ⟨#[122, 122]⟩] _ hW.st (by omega) hA11 hB11 (by simp)).mono ?_
         rintro e w' ⟨v, ⟨xk, rfl, hxk⟩, rfl, hs', hg'⟩
         have Hxk := Lib.hid (show xk.size ≤ 1000 from by simp only [List.mem_cons, List.not_mem_nil, or_false] at hxk; rcases hxk with rfl | rfl | rfl; (· exact Hr.out.1); (· exact Hr.out.1); (· exact by decide))
         try replace hA14 := hA14.other hg' hB14
         try replace hC := gb_cell hg' hC hne
         replace hW := hW.step hs' hg' hne
         clear hs' hg' hxk hA11 hB11
         go_wp2_with fail
         refine hK.out _ _ (fun h => absurd h (by decide)) ?_
         clear hK K
         try simp only [Act.put, sEt, sE0, sE1]
         refine sameC (l' := (bQ 22 32767)) (by kernel_rfl) ?_
         first | exact tail v11 v14 xk W14 ⟨Hxk.out, hW.mono (show _ ≤ N + 70 by omega), ⟨_, hA14, hB14⟩⟩ | exact tail v11 v14 xk w' ⟨Hxk.out, hW.mono (show _ ≤ N + 70 by omega), ⟨_, hA14, hB14⟩⟩
       ·go_simp
        obtain ⟨v14, W14, e14, f14, hA14, hB14, hX14, hb14⟩ := fws_box4 hW ⟨#[97, 110, 110]⟩ ⟨#[98, 101, 97]⟩ ⟨#[122, 101, 100]⟩ ⟨#[]⟩
        rw [e14, f14]
        clear e14 f14
        replace hW := hX14
        try replace hA11 := hA11.below hb14
        try replace hC := below_cell hb14 hC
        clear hX14 hb14
        go_wp2_with fail
        refine hK.out _ _ (fun _ => ?_) ?_
        ·(exact hC)
        clear hK K
        try simp only [Act.put, sEt, sE0, sE1]
        refine readyC (rs := [11]) (by kernel_rfl) (by simp) (each_cons (runC ops_7_19_11 (by rfl) (fun K hK => ?_)) each_nil)
        go_simp
        obtain ⟨v11, W11, e11, f11, hA11, hB11, hX11, hb11⟩ := fws_box3 hW r.slot r.slot ⟨#[122, 122]⟩
        rw [e11, f11]
        clear e11 f11
        replace hW := hX11
        try replace hA14 := hA14.below hb11
        try replace hC := below_cell hb11 hC
        clear hX11 hb11
        go_wp2_with fail
        refine hK.out _ _ (fun h => absurd h (by decide)) ?_
        clear hK K
        try simp only [Act.put, sEt, sE0, sE1]
        refine readyC (rs := [12]) (by kernel_rfl) (by simp) (each_cons (runC ops_7_19_12 (by rfl) (fun K hK => ?_)) each_nil)
        go_simp
        refine (some_calls B _ _ _ [r.slot, r.slot, ⟨#[122, 122]⟩] _ hW.st (by omega) hA11 hB11 (by simp)).mono ?_
        rintro e w' ⟨v, ⟨xk, rfl, hxk⟩, rfl, hs', hg'⟩
        have Hxk := Lib.hid (show xk.size ≤ 1000 from by simp only [List.mem_cons, List.not_mem_nil, or_false] at hxk; rcases hxk with rfl | rfl | rfl; (· exact Hr.out.1); (· exact Hr.out.1); (· exact by decide))
        try replace hA14 := hA14.other hg' hB14
        try replace hC := gb_cell hg' hC hne
        replace hW := hW.step hs' hg' hne
        clear hs' hg' hxk hA11 hB11
        go_wp2_with fail
        refine hK.out _ _ (fun h => absurd h (by decide)) ?_
        clear hK K
        try simp only [Act.put, sEt, sE0, sE1]
        refine sameC (l' := (bQ 22 32767)) (by kernel_rfl) ?_
        first | exact tail v11 v14 xk W14 ⟨Hxk.out, hW.mono (show _ ≤ N + 70 by omega), ⟨_, hA14, hB14⟩⟩ | exact tail v11 v14 xk w' ⟨Hxk.out, hW.mono (show _ ≤ N + 70 by omega), ⟨_, hA14, hB14⟩⟩
      ·intro v11 v14 xk W ⟨hxk, hW, _, hA14, hB14⟩
       have Hxk := Lib.hid hxk
       clear hxk
       refine readyC (rs := [15]) (by kernel_rfl) (by simp) (each_cons (runC ops_7_19_15 (by rfl) (fun K hK => ?_)) each_nil)
       go_simp
       refine (some_calls B _ _ _ [⟨#[97, 110, 110]⟩, ⟨#[98, 101, 97]⟩, ⟨#[122, 101, 100]⟩, ⟨#[]⟩] _ hW.st (by omega) hA14 hB14 (by simp)).mono ?_
       rintro e w' ⟨v, ⟨xp, rfl, hxp⟩, rfl, hs', hg'⟩
       have Hxp := Lib.hid (show xp.size ≤ 1000 from by simp only [List.mem_cons, List.not_mem_nil, or_false] at hxp; rcases hxp with rfl | rfl | rfl | rfl <;> decide)
       try replace hA11 := hA11.other hg' hB11
       try replace hC := gb_cell hg' hC hne
       replace hW := hW.step hs' hg' hne
       clear hs' hg' hxp hA14 hB14
       go_wp2_with fail
       refine hK.out _ _ (fun h => absurd h (by decide)) ?_
       clear hK K
       try simp only [Act.put, sEt, sE0, sE1]
       refine takeC 16 100 (v := ?_) ops_7_19_16 rfl (by kernel_rfl) (by kernel_rfl) (by kernel_rfl) (by rfl) (fun _ _ _ h => h) (by rfl) ?y16_13 ?_
       case y16_13 => intro w; go_simp; try with_reducible rfl
       simp only [sE0, sE1]
       refine takeC 17 101 (v := ?_) ops_7_19_17 rfl (by kernel_rfl) (by kernel_rfl) (by kernel_rfl) (by rfl) (fun _ _ _ h => h) (by rfl) ?y17_14 ?_
       case y17_14 => intro w; go_simp; try with_reducible rfl
       simp only [sE0, sE1]
       refine readyC (rs := [18]) (by kernel_rfl) (by simp) (each_cons (runC ops_7_19_18 (by rfl) (fun K hK => ?_)) each_nil)
       obtain ⟨r2, -, z0, z1, zf⟩ := hW.cells
       go_simp
       replace hW := hW.slot hBw hgb' xk Hxk.out
       clear z0 z1 zf
       refine hK.out _ _ (fun h => absurd h (by decide)) ?_
       clear hK K
       try simp only [sEt, sE0, sE1]
       refine takeC 19 102 (v := ?_) ops_7_19_19 rfl (by kernel_rfl) (by kernel_rfl) (by kernel_rfl) (by rfl) (fun _ _ _ h => h) (by rfl) ?y19_15 ?_
       case y19_15 => intro w; go_simp; try with_reducible rfl
       simp only [sE0, sE1]
       refine takeC 20 103 (v := ?_) ops_7_19_20 rfl (by kernel_rfl) (by kernel_rfl) (by kernel_rfl) (by rfl) (fun _ _ _ h => h) (by rfl) ?y20_16 ?_
       case y20_16 => intro w; go_simp; try with_reducible rfl
       simp only [sE0, sE1]
       refine readyC (rs := [21]) (by kernel_rfl) (by simp) (each_cons (runC ops_7_19_21 (by rfl) (fun K hK => ?_)) each_nil)
       obtain ⟨r2, -, z0, z1, zf⟩ := hW.cells
       go_simp
       replace hW := hW.who hBw hgb' xp Hxp.out
       clear z0 z1 zf
       refine hK.out _ _ (fun h => absurd h (by decide)) ?_
       clear hK K
       try simp only [sEt, sE0, sE1]
       refine doneC (by kernel_rfl) ?_ _
       go_wp2_with fail
       go_ret
       exact ⟨_, hW.made hq4 hle hgb', rfl, hW.st.mono (by omega), hW.gb⟩
end Go.Proofs.YtfcaokpadodijaaGreat
