/- Slots, drawn: one of them may be changed. -/
import Derived.Test.YtfcaokpadodijaaGreatMgan
import Derived.Test.YtfcaokpadodijaaGreatMgaa
import Derived.Test.YtfcaokpadodijaaGreatMgac
import Derived.Test.YtfcaokpadodijaaGreatMgaq
namespace Go.Proofs.YtfcaokpadodijaaGreat
open Go.RowKit

/-- Slots in block g, one of which is written: the stream goes on. -/
def SlS (w : World) (B g m i n : Nat) (w' : World) : Prop :=
 ∃ (xs : List SlD) (pvs : List Value) (c : SlD), xs.length = m ∧ pvs.length = xs.length ∧ xs[i]? = some c ∧ (∀ x ∈ xs, SmallSl x) ∧ RowsAt w' 72 g 0 2 (nRows slRow xs pvs) ∧
  (∀ (k : Nat) (x : Value) (a : SlD), pvs[k]? = some x → xs[k]? = some a → Strs w' w.heap.size x a.pos) ∧ St w' B n ∧ w.grownBy w' (some B)
theorem SlS.st {w : World} {B g m i n : Nat} {w' : World} (h : SlS w B g m i n w') : St w' B n := by obtain ⟨_, _, _, _, _, _, _, _, _, h, _⟩ := h; exact h
theorem SlS.gb {w : World} {B g m i n : Nat} {w' : World} (h : SlS w B g m i n w') : w.grownBy w' (some B) := by obtain ⟨_, _, _, _, _, _, _, _, _, _, h⟩ := h; exact h
theorem SlS.step {w : World} {B g m i n k : Nat} {w' w'' : World} (h : SlS w B g m i n w') (hs : St w'' B k) (hg : w'.grownBy w'' (some B)) (hne : g ≠ B) (hB : B < w.heap.size) : SlS w B g m i k w'' := by
 obtain ⟨xs, pvs, c, h1, h2, h3, h4, h5, h6, h7, h8⟩ := h
 exact ⟨xs, pvs, c, h1, h2, h3, h4, h5.lift (hg.block g h5.lt (by intro e; cases e; exact hne rfl)), fun k x a hx ha => (h6 k x a hx ha).other hg hB, hs, gb_trans h8 hg⟩
theorem SlS.alloc {w : World} {B g m i n : Nat} {w' : World} (h : SlS w B g m i n w') (o : Obj) : SlS w B g m i n (w'.alloc o) := by
 obtain ⟨xs, pvs, c, h1, h2, h3, h4, h5, h6, h7, h8⟩ := h
 exact ⟨xs, pvs, c, h1, h2, h3, h4, h5.below (below_alloc w' o), fun k x a hx ha => (h6 k x a hx ha).below (below_alloc w' o), h7.alloc o, gb_trans h8 (gb_alloc w' o _)⟩
/-- One cell of the slot is written, not that of the positions. -/
theorem SlS.put {w : World} {B g m i n : Nat} {w' : World} (h : SlS w B g m i n w') (hB : B < w.heap.size) (hg : w.heap.size ≤ g) (f : Nat) (u : Value) (hf : f < 2) (hu : ∀ c : SlD, SmallSl c → ∃ c' : SlD, SmallSl c' ∧ c'.pos = c.pos ∧ ∀ x, (slRow c x).set f u = slRow c' x) : SlS w B g m i n (w'.setCell ⟨g, i * 2 + f, none⟩ u) := by
 obtain ⟨xs, pvs, c, h1, h2, h3, h4, h5, h6, h7, h8⟩ := h
 obtain ⟨c', hc', hp, he⟩ := hu c (h4 c (List.mem_of_getElem? h3))
 have hi : i < xs.length := (List.getElem?_eq_some_iff.1 h3).1
 have hip : i < pvs.length := by omega
 have hs := h5.set (i := i) (f := f) (nRows_get h3 (List.getElem?_eq_getElem hip)) hf u
 have hset : (nRows slRow xs pvs).set i ((slRow c pvs[i]).set f u) = nRows slRow (xs.set i c') pvs := by
  refine List.ext_getElem? fun k => ?_
  unfold nRows; rw [he]; by_cases hk : k = i
  ·subst hk
   rw [List.getElem?_set_self (by rw [List.length_zipWith]; omega), List.getElem?_zipWith, List.getElem?_set_self hi, List.getElem?_eq_getElem hip]
  ·rw [List.getElem?_set_ne (fun e => hk e.symm), List.getElem?_zipWith, List.getElem?_zipWith, List.getElem?_set_ne (fun e => hk e.symm)]
 rw [hset, Nat.zero_add] at hs
 have hgr := gb_setCell w' g (i * 2 + f) u
 obtain ⟨cur, hcur⟩ := h5.heap
 refine ⟨xs.set i c', pvs, c', by simpa using h1, by simpa using h2, by simp [hi], fun x hx => ?_, hs, fun k x a hx ha => ?_, h7.grown hgr fun r hr => by cases hr; omega, gb_then h8 hgr fun r hr => by cases hr; exact hg⟩
 ·rcases List.mem_or_eq_of_mem_set hx with hx | rfl
  ·exact h4 x hx
  ·exact hc'
 ·have key : Strs w' w.heap.size x a.pos := by
   by_cases hk : k = i
   ·subst hk
    rw [List.getElem?_set_self hi] at ha
    cases ha
    rw [hp]; exact h6 k x c hx h3
   ·rw [List.getElem?_set_ne (fun e => hk e.symm)] at ha
    exact h6 k x a hx ha
  exact key.row hgr fun r hr => ⟨cur, _, _, by cases hr; exact hcur, by decide⟩
theorem strs_drew {w : World} {lo : Nat} {v : Value} {ks : List ByteArray} (h : Strs w lo v ks) : Strs w.drew lo v ks := Rows.lift h fun _ _ _ _ _ => rfl
theorem SlS.mono {w : World} {B g m i n k : Nat} {w' : World} (h : SlS w B g m i n w') (hk : n ≤ k) : SlS w B g m i k w' := by
 obtain ⟨xs, pvs, c, h1, h2, h3, h4, h5, h6, h7, h8⟩ := h; exact ⟨xs, pvs, c, h1, h2, h3, h4, h5, h6, h7.mono hk, h8⟩
theorem SlS.drew {w : World} {B g m i n : Nat} {w' : World} (h : SlS w B g m i n w') : SlS w B g m i n w'.drew := by
 obtain ⟨xs, pvs, c, h1, h2, h3, h4, h5, h6, h7, h8⟩ := h
 exact ⟨xs, pvs, c, h1, h2, h3, h4, h5, fun k x a hx ha => strs_drew (h6 k x a hx ha), h7, gb_trans h8 (gb_drewN w' 1 _)⟩
theorem SlS.below {w : World} {B g m i n : Nat} {w' w'' : World} (h : SlS w B g m i n w') (hb : Below w'.heap.size w' w'') : SlS w B g m i n w'' := by
 obtain ⟨xs, pvs, c, h1, h2, h3, h4, h5, h6, h7, h8⟩ := h
 exact ⟨xs, pvs, c, h1, h2, h3, h4, h5.below hb, fun k x a hx ha => (h6 k x a hx ha).below hb, h7.below hb, gb_trans h8 (gb_below hb _)⟩
theorem SlS.grown {w : World} {B g m i n r : Nat} {w' w'' : World} {cur : Array Value} (h : SlS w B g m i n w') (hg : w'.grownBy w'' (some r)) (hB : B < w.heap.size) (hr : w.heap.size ≤ r) (hne : g ≠ r) (hs : ∀ (k : Nat) (x : Value) (a : SlD) , Strs w' w.heap.size x a.pos → Strs w'' w.heap.size x a.pos) : SlS w B g m i n w'' := by
 obtain ⟨xs, pvs, c, h1, h2, h3, h4, h5, h6, h7, h8⟩ := h
 exact ⟨xs, pvs, c, h1, h2, h3, h4, h5.lift (hg.block g h5.lt (by intro e; cases e; exact hne rfl)), fun k x a hx ha => hs k x a (h6 k x a hx ha), h7.grown hg (fun r' e => by cases e; omega), gb_then h8 hg fun r' e => by cases e; exact hr⟩
theorem SlS.block {w : World} {B g m i n : Nat} {w' : World} (h : SlS w B g m i n w') : ∃ cur, w'.heap[g]? = some (.cells cur 72 (0, 0)) := by
 obtain ⟨xs, pvs, c, h1, h2, h3, h4, h5, h6, h7, h8⟩ := h; exact h5.heap
theorem SlS.cells {w : World} {B g m i n : Nat} {w' : World} (h : SlS w B g m i n w') : ∃ (a b : Value), w'.cell? ⟨g, i * 2, none⟩ = some a ∧ w'.cell? ⟨g, i * 2 + 1, none⟩ = some b ∧ ∀ o, w'.frozen? ⟨g, o, none⟩ = false := by
 obtain ⟨xs, pvs, c, h1, h2, h3, h4, h5, h6, h7, h8⟩ := h
 have hi : i < pvs.length := by have := (List.getElem?_eq_some_iff.1 h3).1; omega
 have hx : ∀ (j : Nat) (u : Value), (slRow c pvs[i])[j]? = some u → w'.cell? ⟨g, i * 2 + j, none⟩ = some u := fun j u hu => by
  have := h5.cell (i := i) (j := j) (nRows_get h3 (List.getElem?_eq_getElem hi)) hu
  simpa using this
 exact ⟨_, _, hx 0 _ rfl, hx 1 _ rfl, fun o => h5.free o⟩
theorem SlS.strs {w : World} {B g m i n lo o : Nat} {w' : World} {x : Value} {ks : List ByteArray} (h : SlS w B g m i n w') (hk : Strs w' lo x ks) (u : Value) : Strs (w'.setCell ⟨g, o, none⟩ u) lo x ks := by
 obtain ⟨cur, hcur⟩ := h.block
 exact hk.row (gb_setCell w' g o u) fun r hr => ⟨cur, _, _, by cases hr; exact hcur, by decide⟩
theorem SlS.key {w : World} {B g m i n : Nat} {w' : World} (h : SlS w B g m i n w') (hB : B < w.heap.size) (hg : w.heap.size ≤ g) (k : ByteArray) (hk : k.size ≤ 1000) : SlS w B g m i n (w'.setCell ⟨g, i * 2, none⟩ (.string k)) :=
 h.put hB hg 0 _ (by omega) fun c hc => ⟨{ c with key := k }, ⟨hk, hc.2⟩, rfl, fun _ => rfl⟩
/-- The positions of the slot are written. -/
theorem SlS.pos {w : World} {B g m i n : Nat} {w' : World} (h : SlS w B g m i n w') (hB : B < w.heap.size) (hg : w.heap.size ≤ g) (x : Value) (ks : List ByteArray) (hk : Strs w' w.heap.size x ks) (hks : ks.length ≤ 5 ∧ ∀ k ∈ ks, k.size ≤ 1000) : SlS w B g m i n (w'.setCell ⟨g, i * 2 + 1, none⟩ x) := by
 have h0 := h
 obtain ⟨xs, pvs, c, h1, h2, h3, h4, h5, h6, h7, h8⟩ := h
 have hi : i < xs.length := (List.getElem?_eq_some_iff.1 h3).1
 have hip : i < pvs.length := by omega
 have hs := h5.set (i := i) (f := 1) (nRows_get h3 (List.getElem?_eq_getElem hip)) (by omega) x
 have hset : (nRows slRow xs pvs).set i ((slRow c pvs[i]).set 1 x) = nRows slRow (xs.set i ⟨c.key, ks⟩) (pvs.set i x) := by
  refine List.ext_getElem? fun k => ?_
  unfold nRows; by_cases hk : k = i
  ·subst hk
   rw [List.getElem?_set_self (by rw [List.length_zipWith]; omega), List.getElem?_zipWith, List.getElem?_set_self hi, List.getElem?_set_self hip]
   rfl
  ·rw [List.getElem?_set_ne (fun e => hk e.symm), List.getElem?_zipWith, List.getElem?_zipWith, List.getElem?_set_ne (fun e => hk e.symm), List.getElem?_set_ne (fun e => hk e.symm)]
 rw [hset, Nat.zero_add] at hs
 have hgr := gb_setCell w' g (i * 2 + 1) x
 refine ⟨xs.set i ⟨c.key, ks⟩, pvs.set i x, ⟨c.key, ks⟩, by simpa using h1, by simpa using h2, by simp [hi], fun y hy => ?_, hs, fun k y a hy ha => ?_, h7.grown hgr fun r hr => by cases hr; omega, gb_then h8 hgr fun r hr => by cases hr; exact hg⟩
 ·rcases List.mem_or_eq_of_mem_set hy with hy | rfl
  ·exact h4 y hy
  ·exact ⟨(h4 c (List.mem_of_getElem? h3)).1, hks⟩
 ·by_cases hk' : k = i
  ·subst hk'
   rw [List.getElem?_set_self hi] at ha
   rw [List.getElem?_set_self hip] at hy
   cases ha; cases hy
   exact h0.strs hk _
  ·rw [List.getElem?_set_ne (fun e => hk' e.symm)] at ha hy
   exact h0.strs (h6 k y a hy ha) _
def SomeSl (lo : Nat) (w : World) (v : Value) : Prop := ∃ xs : List SlD, Sls w lo v xs ∧ xs.length ≤ 4 ∧ ∀ c ∈ xs, SmallSl c
theorem SlS.made {w : World} {B g m i n c : Nat} {w' : World} (h : SlS w B g m i n w') (hm : m ≤ 4) (hc : m ≤ c) (hg : w.heap.size ≤ g) : SomeSl w.heap.size w' (.slice (some ⟨g, 0, none⟩) m c) := by
 obtain ⟨xs, pvs, _, h1, h2, _, h4, h5, h6, _, _⟩ := h
 refine ⟨xs, ⟨pvs, h2, ?_, h6⟩, by omega, h4⟩
 have e := nRows_length (row := slRow) h2
 have := h5.rows (lo := w.heap.size) (cap := c) (by rw [e]; omega) hg (by rw [e]; omega)
 rw [e, h1] at this
 exact this
theorem sls_box3 {w : World} {B g m i n : Nat} {w' : World} (h : SlS w B g m i n w') (a b c : ByteArray) :
  ∃ v W, Value.slice (some ⟨w'.heap.size, 0, none⟩) 3 3 = v ∧ w'.alloc (.cells #[.string a, .string b, .string c] 9) = W ∧ Strs W w'.heap.size v [a, b, c] ∧ B < w'.heap.size ∧ SlS w B g m i n W ∧ Below w'.heap.size w' W :=
 ⟨_, _, rfl, rfl, strs_new w' [a, b, c] (by simp), h.st.lt, h.alloc _, below_alloc _ _⟩
theorem gb_cellsB {w w' : World} {B g o p : Nat} {a b : Value} (hg : w.grownBy w' (some B)) (hne : g ≠ B) (h : w.cell? ⟨g, o, none⟩ = some a ∧ w.cell? ⟨g, p, none⟩ = some b) : w'.cell? ⟨g, o, none⟩ = some a ∧ w'.cell? ⟨g, p, none⟩ = some b :=
 ⟨gb_cell hg h.1 hne, gb_cell hg h.2 hne⟩
theorem share5 {A1 A2 A3 A4 A5 : Sort _} {C G : A1 → A2 → A3 → A4 → A5 → Prop} {R : Prop} (main : (∀ x1 x2 x3 x4 x5, C x1 x2 x3 x4 x5 → G x1 x2 x3 x4 x5) → R) (tail : ∀ x1 x2 x3 x4 x5, C x1 x2 x3 x4 x5 → G x1 x2 x3 x4 x5) : R := main tail
/-- The clone of the positions. -/
def Cloned (lo : Nat) (v : Value) (W : World) : Prop := ∃ qs : List ByteArray, W.ownsRow lo 9 1 v qs.length (qs.map .string) ∧ qs.length ≤ 4 ∧ ∀ k ∈ qs, k.size ≤ 1000
theorem Cloned.below {lo : Nat} {v : Value} {W W' : World} (h : Cloned lo v W) (hb : Below W.heap.size W W') : Cloned lo v W' := by
 obtain ⟨qs, h1, h2⟩ := h; exact ⟨qs, own_below h1 hb, h2⟩
theorem Cloned.other {lo B : Nat} {v : Value} {W W' : World} (h : Cloned lo v W) (hg : W.grownBy W' (some B)) (hB : B < lo) : Cloned lo v W' := by
 obtain ⟨qs, h1, h2⟩ := h
 exact ⟨qs, h1.kept hg (.inr fun e => by have := (own_block h1 B e).1; omega), h2⟩
def o5_4 : Array Go.Oper := #[
 ⟨some 15, .move (.tmp 4), 70, "h10_players.go:259", #[], none⟩,
 ⟨some 16, .move (.tmp 4), 70, "h10_players.go:259", #[⟨21, .gcOnly .lateStores⟩], none⟩,
 ⟨some 17, .move (.tmp 0), 23, "h10_players.go:259", #[], none⟩,
 ⟨some 18, .move (.tmp 4), 70, "h10_players.go:259", #[], none⟩,
 ⟨some 19, .nilCheck (.tmp 18), 0, "h10_players.go:259", #[⟨3, .data⟩], none⟩,
 ⟨some 20, .fieldAddr 72 (.tmp 19) 0, 0, "h10_players.go:259", #[⟨4, .data⟩], none⟩,
 ⟨some 21, .load 9 (.tmp 20), 9, "h10_players.go:259", #[⟨5, .data⟩], none⟩,
 ⟨some 22, .buildSlice 39 3 #[(0, .const (.string { data := #[] })), (1, .const (.string { data := #[115, 97] })), (2, .tmp 21)], 39, "h10_players.go:259", #[⟨6, .data⟩], none⟩,
 ⟨some 23, .call { callee := .value (.func 8), args := #[.tmp 17, .tmp 22], argTypes := #[23, 39] }, 9, "h10_players.go:259", #[⟨2, .data⟩, ⟨7, .data⟩], none⟩,
 ⟨some 24, .move (.tmp 4), 70, "h10_players.go:259", #[], none⟩,
 ⟨some 25, .nilCheck (.tmp 24), 0, "h10_players.go:259", #[⟨9, .data⟩], none⟩,
 ⟨some 26, .fieldAddr 72 (.tmp 25) 1, 0, "h10_players.go:259", #[⟨10, .data⟩], none⟩,
 ⟨some 27, .load 39 (.tmp 26), 39, "h10_players.go:259", #[⟨11, .data⟩], none⟩,
 ⟨some 28, .call { callee := .value (.func 39), args := #[.tmp 27], argTypes := #[39] }, 39, "h10_players.go:259", #[⟨12, .data⟩, ⟨8, .chain⟩], none⟩,
 ⟨some 29, .move (.tmp 0), 23, "h10_players.go:259", #[], none⟩,
 ⟨some 30, .buildSlice 39 3 #[(0, .const (.string { data := #[122, 122] })), (1, .const (.string { data := #[] })), (2, .const (.string { data := #[97] }))], 39, "h10_players.go:259", #[], none⟩,
 ⟨some 31, .call { callee := .value (.func 8), args := #[.tmp 29, .tmp 30], argTypes := #[23, 39] }, 9, "h10_players.go:259", #[⟨14, .data⟩, ⟨15, .data⟩, ⟨13, .chain⟩], none⟩,
 ⟨some 32, .buildSlice 39 1 #[(0, .tmp 31)], 39, "h10_players.go:259", #[⟨16, .data⟩], none⟩,
 ⟨some 33, .call { callee := .builtin .append, args := #[.tmp 28, .tmp 32], argTypes := #[39, 39] }, 39, "h10_players.go:259", #[⟨13, .data⟩, ⟨17, .data⟩, ⟨16, .chain⟩], none⟩,
 ⟨some 34, .nilCheck (.tmp 15), 0, "h10_players.go:259", #[⟨0, .data⟩, ⟨0, .phase⟩, ⟨1, .textOnly .lateStores⟩, ⟨2, .phase⟩, ⟨3, .phase⟩, ⟨4, .phase⟩, ⟨5, .phase⟩, ⟨6, .phase⟩, ⟨7, .phase⟩, ⟨8, .phase⟩, ⟨9, .textOnly .lateStores⟩, ⟨10, .textOnly .lateStoresUnsure⟩, ⟨11, .textOnly .lateStoresUnsure⟩, ⟨12, .phase⟩, ⟨13, .phase⟩, ⟨14, .textOnly .lateStores⟩, ⟨15, .textOnly .lateStoresUnsure⟩, ⟨16, .phase⟩, ⟨17, .textOnly .lateStoresUnsure⟩, ⟨18, .phase⟩], none⟩,
 ⟨some 35, .fieldAddr 72 (.tmp 34) 0, 0, "h10_players.go:259", #[⟨19, .data⟩, ⟨0, .phase⟩, ⟨1, .textOnly .lateStores⟩, ⟨2, .phase⟩, ⟨3, .phase⟩, ⟨4, .phase⟩, ⟨5, .phase⟩, ⟨6, .phase⟩, ⟨7, .phase⟩, ⟨8, .phase⟩, ⟨9, .textOnly .lateStores⟩, ⟨10, .textOnly .lateStoresUnsure⟩, ⟨11, .textOnly .lateStoresUnsure⟩, ⟨12, .phase⟩, ⟨13, .phase⟩, ⟨14, .textOnly .lateStores⟩, ⟨15, .textOnly .lateStoresUnsure⟩, ⟨16, .phase⟩, ⟨17, .textOnly .lateStoresUnsure⟩, ⟨18, .phase⟩], none⟩,
 ⟨none, .store 9 (.tmp 35) (.tmp 23), 0, "h10_players.go:259", #[⟨20, .data⟩, ⟨8, .data⟩, ⟨18, .chain⟩, ⟨0, .phase⟩, ⟨1, .textOnly .lateStores⟩, ⟨2, .phase⟩, ⟨3, .phase⟩, ⟨4, .phase⟩, ⟨5, .phase⟩, ⟨6, .phase⟩, ⟨7, .phase⟩, ⟨8, .phase⟩, ⟨9, .textOnly .lateStores⟩, ⟨10, .textOnly .lateStoresUnsure⟩, ⟨11, .textOnly .lateStoresUnsure⟩, ⟨12, .phase⟩, ⟨13, .phase⟩, ⟨14, .textOnly .lateStores⟩, ⟨15, .textOnly .lateStoresUnsure⟩, ⟨16, .phase⟩, ⟨17, .textOnly .lateStoresUnsure⟩, ⟨18, .phase⟩], none⟩,
 ⟨some 36, .nilCheck (.tmp 16), 0, "h10_players.go:259", #[⟨1, .data⟩, ⟨0, .phase⟩, ⟨1, .phase⟩, ⟨2, .phase⟩, ⟨3, .phase⟩, ⟨4, .phase⟩, ⟨5, .phase⟩, ⟨6, .phase⟩, ⟨7, .phase⟩, ⟨8, .phase⟩, ⟨9, .phase⟩, ⟨10, .phase⟩, ⟨11, .phase⟩, ⟨12, .phase⟩, ⟨13, .phase⟩, ⟨14, .phase⟩, ⟨15, .phase⟩, ⟨16, .phase⟩, ⟨17, .phase⟩, ⟨18, .phase⟩, ⟨19, .phase⟩, ⟨20, .phase⟩, ⟨21, .phase⟩], none⟩,
 ⟨some 37, .fieldAddr 72 (.tmp 36) 1, 0, "h10_players.go:259", #[⟨22, .data⟩, ⟨0, .phase⟩, ⟨1, .phase⟩, ⟨2, .phase⟩, ⟨3, .phase⟩, ⟨4, .phase⟩, ⟨5, .phase⟩, ⟨6, .phase⟩, ⟨7, .phase⟩, ⟨8, .phase⟩, ⟨9, .phase⟩, ⟨10, .phase⟩, ⟨11, .phase⟩, ⟨12, .phase⟩, ⟨13, .phase⟩, ⟨14, .phase⟩, ⟨15, .phase⟩, ⟨16, .phase⟩, ⟨17, .phase⟩, ⟨18, .phase⟩, ⟨19, .phase⟩, ⟨20, .phase⟩, ⟨21, .phase⟩], none⟩,
 ⟨none, .store 39 (.tmp 37) (.tmp 33), 0, "h10_players.go:259", #[⟨23, .data⟩, ⟨18, .data⟩, ⟨21, .chain⟩, ⟨0, .phase⟩, ⟨1, .phase⟩, ⟨2, .phase⟩, ⟨3, .phase⟩, ⟨4, .phase⟩, ⟨5, .phase⟩, ⟨6, .phase⟩, ⟨7, .phase⟩, ⟨8, .phase⟩, ⟨9, .phase⟩, ⟨10, .phase⟩, ⟨11, .phase⟩, ⟨12, .phase⟩, ⟨13, .phase⟩, ⟨14, .phase⟩, ⟨15, .phase⟩, ⟨16, .phase⟩, ⟨17, .phase⟩, ⟨18, .phase⟩, ⟨19, .phase⟩, ⟨20, .phase⟩, ⟨21, .phase⟩], none⟩]
theorem o5_4_0 : o5_4[0]? = some (⟨some 15, .move (.tmp 4), 70, "h10_players.go:259", #[], none⟩ : Go.Oper) := rfl
theorem o5_4_1 : o5_4[1]? = some (⟨some 16, .move (.tmp 4), 70, "h10_players.go:259", #[⟨21, .gcOnly .lateStores⟩], none⟩ : Go.Oper) := rfl
theorem o5_4_2 : o5_4[2]? = some (⟨some 17, .move (.tmp 0), 23, "h10_players.go:259", #[], none⟩ : Go.Oper) := rfl
theorem o5_4_3 : o5_4[3]? = some (⟨some 18, .move (.tmp 4), 70, "h10_players.go:259", #[], none⟩ : Go.Oper) := rfl
theorem o5_4_4 : o5_4[4]? = some (⟨some 19, .nilCheck (.tmp 18), 0, "h10_players.go:259", #[⟨3, .data⟩], none⟩ : Go.Oper) := rfl
theorem o5_4_5 : o5_4[5]? = some (⟨some 20, .fieldAddr 72 (.tmp 19) 0, 0, "h10_players.go:259", #[⟨4, .data⟩], none⟩ : Go.Oper) := rfl
theorem o5_4_6 : o5_4[6]? = some (⟨some 21, .load 9 (.tmp 20), 9, "h10_players.go:259", #[⟨5, .data⟩], none⟩ : Go.Oper) := rfl
theorem o5_4_7 : o5_4[7]? = some (⟨some 22, .buildSlice 39 3 #[(0, .const (.string { data := #[] })), (1, .const (.string { data := #[115, 97] })), (2, .tmp 21)], 39, "h10_players.go:259", #[⟨6, .data⟩], none⟩ : Go.Oper) := rfl
theorem o5_4_8 : o5_4[8]? = some (⟨some 23, .call { callee := .value (.func 8), args := #[.tmp 17, .tmp 22], argTypes := #[23, 39] }, 9, "h10_players.go:259", #[⟨2, .data⟩, ⟨7, .data⟩], none⟩ : Go.Oper) := rfl
theorem o5_4_9 : o5_4[9]? = some (⟨some 24, .move (.tmp 4), 70, "h10_players.go:259", #[], none⟩ : Go.Oper) := rfl
theorem o5_4_10 : o5_4[10]? = some (⟨some 25, .nilCheck (.tmp 24), 0, "h10_players.go:259", #[⟨9, .data⟩], none⟩ : Go.Oper) := rfl
theorem o5_4_11 : o5_4[11]? = some (⟨some 26, .fieldAddr 72 (.tmp 25) 1, 0, "h10_players.go:259", #[⟨10, .data⟩], none⟩ : Go.Oper) := rfl
theorem o5_4_12 : o5_4[12]? = some (⟨some 27, .load 39 (.tmp 26), 39, "h10_players.go:259", #[⟨11, .data⟩], none⟩ : Go.Oper) := rfl
theorem o5_4_13 : o5_4[13]? = some (⟨some 28, .call { callee := .value (.func 39), args := #[.tmp 27], argTypes := #[39] }, 39, "h10_players.go:259", #[⟨12, .data⟩, ⟨8, .chain⟩], none⟩ : Go.Oper) := rfl
theorem o5_4_14 : o5_4[14]? = some (⟨some 29, .move (.tmp 0), 23, "h10_players.go:259", #[], none⟩ : Go.Oper) := rfl
theorem o5_4_15 : o5_4[15]? = some (⟨some 30, .buildSlice 39 3 #[(0, .const (.string { data := #[122, 122] })), (1, .const (.string { data := #[] })), (2, .const (.string { data := #[97] }))], 39, "h10_players.go:259", #[], none⟩ : Go.Oper) := rfl
theorem o5_4_16 : o5_4[16]? = some (⟨some 31, .call { callee := .value (.func 8), args := #[.tmp 29, .tmp 30], argTypes := #[23, 39] }, 9, "h10_players.go:259", #[⟨14, .data⟩, ⟨15, .data⟩, ⟨13, .chain⟩], none⟩ : Go.Oper) := rfl
theorem o5_4_17 : o5_4[17]? = some (⟨some 32, .buildSlice 39 1 #[(0, .tmp 31)], 39, "h10_players.go:259", #[⟨16, .data⟩], none⟩ : Go.Oper) := rfl
theorem o5_4_18 : o5_4[18]? = some (⟨some 33, .call { callee := .builtin .append, args := #[.tmp 28, .tmp 32], argTypes := #[39, 39] }, 39, "h10_players.go:259", #[⟨13, .data⟩, ⟨17, .data⟩, ⟨16, .chain⟩], none⟩ : Go.Oper) := rfl
theorem o5_4_19 : o5_4[19]? = some (⟨some 34, .nilCheck (.tmp 15), 0, "h10_players.go:259", #[⟨0, .data⟩, ⟨0, .phase⟩, ⟨1, .textOnly .lateStores⟩, ⟨2, .phase⟩, ⟨3, .phase⟩, ⟨4, .phase⟩, ⟨5, .phase⟩, ⟨6, .phase⟩, ⟨7, .phase⟩, ⟨8, .phase⟩, ⟨9, .textOnly .lateStores⟩, ⟨10, .textOnly .lateStoresUnsure⟩, ⟨11, .textOnly .lateStoresUnsure⟩, ⟨12, .phase⟩, ⟨13, .phase⟩, ⟨14, .textOnly .lateStores⟩, ⟨15, .textOnly .lateStoresUnsure⟩, ⟨16, .phase⟩, ⟨17, .textOnly .lateStoresUnsure⟩, ⟨18, .phase⟩], none⟩ : Go.Oper) := rfl
theorem o5_4_20 : o5_4[20]? = some (⟨some 35, .fieldAddr 72 (.tmp 34) 0, 0, "h10_players.go:259", #[⟨19, .data⟩, ⟨0, .phase⟩, ⟨1, .textOnly .lateStores⟩, ⟨2, .phase⟩, ⟨3, .phase⟩, ⟨4, .phase⟩, ⟨5, .phase⟩, ⟨6, .phase⟩, ⟨7, .phase⟩, ⟨8, .phase⟩, ⟨9, .textOnly .lateStores⟩, ⟨10, .textOnly .lateStoresUnsure⟩, ⟨11, .textOnly .lateStoresUnsure⟩, ⟨12, .phase⟩, ⟨13, .phase⟩, ⟨14, .textOnly .lateStores⟩, ⟨15, .textOnly .lateStoresUnsure⟩, ⟨16, .phase⟩, ⟨17, .textOnly .lateStoresUnsure⟩, ⟨18, .phase⟩], none⟩ : Go.Oper) := rfl
theorem o5_4_21 : o5_4[21]? = some (⟨none, .store 9 (.tmp 35) (.tmp 23), 0, "h10_players.go:259", #[⟨20, .data⟩, ⟨8, .data⟩, ⟨18, .chain⟩, ⟨0, .phase⟩, ⟨1, .textOnly .lateStores⟩, ⟨2, .phase⟩, ⟨3, .phase⟩, ⟨4, .phase⟩, ⟨5, .phase⟩, ⟨6, .phase⟩, ⟨7, .phase⟩, ⟨8, .phase⟩, ⟨9, .textOnly .lateStores⟩, ⟨10, .textOnly .lateStoresUnsure⟩, ⟨11, .textOnly .lateStoresUnsure⟩, ⟨12, .phase⟩, ⟨13, .phase⟩, ⟨14, .textOnly .lateStores⟩, ⟨15, .textOnly .lateStoresUnsure⟩, ⟨16, .phase⟩, ⟨17, .textOnly .lateStoresUnsure⟩, ⟨18, .phase⟩], none⟩ : Go.Oper) := rfl
theorem o5_4_22 : o5_4[22]? = some (⟨some 36, .nilCheck (.tmp 16), 0, "h10_players.go:259", #[⟨1, .data⟩, ⟨0, .phase⟩, ⟨1, .phase⟩, ⟨2, .phase⟩, ⟨3, .phase⟩, ⟨4, .phase⟩, ⟨5, .phase⟩, ⟨6, .phase⟩, ⟨7, .phase⟩, ⟨8, .phase⟩, ⟨9, .phase⟩, ⟨10, .phase⟩, ⟨11, .phase⟩, ⟨12, .phase⟩, ⟨13, .phase⟩, ⟨14, .phase⟩, ⟨15, .phase⟩, ⟨16, .phase⟩, ⟨17, .phase⟩, ⟨18, .phase⟩, ⟨19, .phase⟩, ⟨20, .phase⟩, ⟨21, .phase⟩], none⟩ : Go.Oper) := rfl
theorem o5_4_23 : o5_4[23]? = some (⟨some 37, .fieldAddr 72 (.tmp 36) 1, 0, "h10_players.go:259", #[⟨22, .data⟩, ⟨0, .phase⟩, ⟨1, .phase⟩, ⟨2, .phase⟩, ⟨3, .phase⟩, ⟨4, .phase⟩, ⟨5, .phase⟩, ⟨6, .phase⟩, ⟨7, .phase⟩, ⟨8, .phase⟩, ⟨9, .phase⟩, ⟨10, .phase⟩, ⟨11, .phase⟩, ⟨12, .phase⟩, ⟨13, .phase⟩, ⟨14, .phase⟩, ⟨15, .phase⟩, ⟨16, .phase⟩, ⟨17, .phase⟩, ⟨18, .phase⟩, ⟨19, .phase⟩, ⟨20, .phase⟩, ⟨21, .phase⟩], none⟩ : Go.Oper) := rfl
theorem o5_4_24 : o5_4[24]? = some (⟨none, .store 39 (.tmp 37) (.tmp 33), 0, "h10_players.go:259", #[⟨23, .data⟩, ⟨18, .data⟩, ⟨21, .chain⟩, ⟨0, .phase⟩, ⟨1, .phase⟩, ⟨2, .phase⟩, ⟨3, .phase⟩, ⟨4, .phase⟩, ⟨5, .phase⟩, ⟨6, .phase⟩, ⟨7, .phase⟩, ⟨8, .phase⟩, ⟨9, .phase⟩, ⟨10, .phase⟩, ⟨11, .phase⟩, ⟨12, .phase⟩, ⟨13, .phase⟩, ⟨14, .phase⟩, ⟨15, .phase⟩, ⟨16, .phase⟩, ⟨17, .phase⟩, ⟨18, .phase⟩, ⟨19, .phase⟩, ⟨20, .phase⟩, ⟨21, .phase⟩], none⟩ : Go.Oper) := rfl
set_option maxRecDepth 100000 in
set_option maxHeartbeats 16000000 in
theorem slots_calls (B N : Nat) (w : World) (hs : St w B N) (hN : N ≤ 3970000) :
  Calls Tryz.prog 5 #[.pointer (some ⟨B, 0, none⟩)] w (Made B (N + 60) (SomeSl w.heap.size) w) := by
 obtain ⟨i0, hi0, hz0, hz1, hz2⟩ := info_parts info_str
 have hBw := hs.lt
 have HI := Lib.hid hi0
 clear hi0
 go_enter Tryz.func5, Tryz.ntmps5
 go_wp2_with fail
 refine (rightSlots_calls B N w hs (by omega)).mono ?_
 rintro e w1 ⟨v, ⟨xs, hown, hx1, hx4, hxt⟩, rfl, hs1, hg1⟩
 have Hxt := Lib.hid hxt
 have hsz1 := hg1.size
 clear hs hxt
 obtain ⟨pvs, hpv, hrow, hpos⟩ := hown
 rcases hrow.2 with ⟨rfl, hnil⟩ | ⟨g, cap, cur, rfl, hgb, hgc, hle, _⟩
 ·exact absurd hnil (by omega)
 have hl0 := nRows_length (row := slRow) hpv
 have hR := (show OwnSl w1 w.heap.size (.slice (some ⟨g, 0, none⟩) xs.length cap) xs from ⟨pvs, hpv, hrow, hpos⟩).rows (fun _ _ => rfl) (by omega)
 have HR := Lib.hid hR
 obtain ⟨hat, _⟩ := RowsAt.of_owns (sz := 2) (rows := nRows slRow xs pvs) (by rw [hl0]; exact hrow) (nRows_each (row := slRow) (sz := 2) (fun _ _ => rfl) xs pvs)
 have hne : g ≠ B := by omega
 have Hat := Lib.hid hat
 have Hpv := Lib.hid hpv
 have Hpos := Lib.hid hpos
 clear hrow hat hgc hR hpv hpos hl0
 obtain ⟨m, hm⟩ : ∃ m, m = xs.length := ⟨_, rfl⟩
 have Hm := Lib.hid hm
 rw [← hm] at hx1 hx4 hle ⊢
 clear hm
 go_wp2_with fail
 refine (flip_calls B _ 15 w1 hs1 (by omega) (by omega) (by omega)).mono ?_
 rintro e w2 ⟨v, ⟨b, rfl⟩, rfl, hs2, hg2⟩
 cases b
 ·go_wp2_with fail
  refine (flip_calls B _ 40 w2 hs2 (by omega) (by omega) (by omega)).mono ?_
  rintro e w3 ⟨v, ⟨b, rfl⟩, rfl, hs3, hg3⟩; cases b
  ·go_wp2_with fail
   go_ret
   exact ⟨_, ⟨xs, by have h := HR.out; rw [← Hm.out] at h; exact NRows.other (NRows.other h hg2 hBw) hg3 hBw, by rw [← Hm.out]; omega, fun c hc => (Hxt.out c hc).small⟩, rfl, hs3.mono (by omega), gb_trans hg1 (gb_trans hg2 hg3)⟩
  ·go_wp2_with fail
   go_ret
   exact ⟨_, ⟨[], ⟨[], rfl, ⟨by simp [nRows], by simp [nRows], .inl ⟨rfl, rfl⟩⟩, by simp⟩, by simp, by simp⟩, rfl, hs3.mono (by omega), gb_trans hg1 (gb_trans hg2 hg3)⟩
 ·have hm1 : (1 : Int) ≤ (m : Int) := by omega
  go_wp2_with fail
  refine (next_calls B _ m w2 hs2 (by omega) (by omega) (by omega)).mono ?_
  rintro e w3 ⟨v, ⟨i, rfl, hi⟩, rfl, hs3, hg3⟩; have him : i < m := by omega
  obtain ⟨s, hs'⟩ : ∃ s, xs[i]? = some s := ⟨_, List.getElem?_eq_getElem (by have := Hm.out; omega)⟩
  obtain ⟨px, hpx⟩ : ∃ px, pvs[i]? = some px := ⟨_, List.getElem?_eq_getElem (by have := Hm.out; have := Hpv.out; omega)⟩
  have hat3 := Hat.out.lift ((hg3.block g (by have := Hat.out.lt; have := hg2.size; omega) (by intro e; cases e; exact hne rfl)).trans (hg2.block g Hat.out.lt (by intro e; cases e; exact hne rfl)))
  have hX : SlS w B g m i _ w3 := ⟨xs, pvs, s, Hm.out.symm, Hpv.out, hs', fun c hc => (Hxt.out c hc).small, hat3, fun k x a hx ha => ((Hpos.out k x a hx ha).other hg2 hBw).other hg3 hBw, hs3, gb_trans hg1 (gb_trans hg2 hg3)⟩
  have Hst := Lib.hid (Hxt.out s (List.mem_of_getElem? hs')); have hP := ((Hpos.out i px s hpx hs').other hg2 hBw).other hg3 hBw
  have c0 : w3.cell? ⟨g, i * 2, none⟩ = some (.string s.key) := by
   have := hat3.cell (i := i) (j := 0) (nRows_get hs' hpx) rfl
   simpa using this
  have c1 : w3.cell? ⟨g, i * 2 + 1, none⟩ = some px := by
   have := hat3.cell (i := i) (j := 1) (nRows_get hs' hpx) rfl
   simpa using this
  have hsz : w.heap.size ≤ w3.heap.size := hX.gb.size
  clear hs1 hs2 hs3 hg1 hg2 hg3 Hat Hm Hpv Hpos HR hat3 hs' hpx Hxt; go_upto_region 4 with fail
  have hC : w3.drew.cell? ⟨g, i * 2, none⟩ = some (.string s.key) ∧ w3.drew.cell? ⟨g, i * 2 + 1, none⟩ = some px := ⟨c0, c1⟩
  replace hX := hX.drew; replace hP := strs_drew hP; clear c0 c1 hsz1 hsz; show Code.wp _ (Code.region 4 o5_4 true) _ _ _
  refine regionC_start 25 (fun w' => w'.cell? ⟨g, i * 2, none⟩ = some (.string s.key) ∧ w'.cell? ⟨g, i * 2 + 1, none⟩ = some px) (fun j => [6, 7, 8, 12, 15].contains j) (by kernel_rfl) rfl ?_
  generalize w3.drew = W4 at hX hC hP ⊢
  apply share5 (C := fun (v7 v13 v15 : Value) (xk : ByteArray) (W : World) => xk.size ≤ 1000 ∧ (∃ Wc, SlS w B g m i (N + 50) Wc ∧ Wc.grownBy W (some B) ∧ Cloned Wc.heap.size v13 W) ∧ St W B (N + 50) ∧ ∃ lo, Strs W lo v15 [⟨#[122, 122]⟩, ⟨#[]⟩, ⟨#[97]⟩] ∧ B < lo)
  ·intro tail
   refine takeC 0 15 (v := ?_) o5_4_0 rfl (by kernel_rfl) (by kernel_rfl) (by kernel_rfl) (by rfl) (fun _ _ _ h => h) (by rfl) ?y0_1 ?_
   case y0_1 => intro w; go_simp; try with_reducible rfl
   simp only [sE0, sE1]; refine takeC 1 16 (v := ?_) o5_4_1 rfl (by kernel_rfl) (by kernel_rfl) (by kernel_rfl) (by rfl) (fun _ _ _ h => h) (by rfl) ?y1_2 ?_
   case y1_2 => intro w; go_simp; try with_reducible rfl
   simp only [sE0, sE1]; refine takeC 2 17 (v := ?_) o5_4_2 rfl (by kernel_rfl) (by kernel_rfl) (by kernel_rfl) (by rfl) (fun _ _ _ h => h) (by rfl) ?y2_3 ?_
   case y2_3 => intro w; go_simp; try with_reducible rfl
   simp only [sE0, sE1]; refine takeC 3 18 (v := ?_) o5_4_3 rfl (by kernel_rfl) (by kernel_rfl) (by kernel_rfl) (by rfl) (fun _ _ _ h => h) (by rfl) ?y3_4 ?_
   case y3_4 => intro w; go_simp; try with_reducible rfl
   simp only [sE0, sE1]; refine takeC 4 19 (v := ?_) o5_4_4 rfl (by kernel_rfl) (by kernel_rfl) (by kernel_rfl) (by rfl) (fun _ _ _ h => h) (by rfl) ?y4_5 ?_
   case y4_5 => intro w; go_simp; try with_reducible rfl
   simp only [sE0, sE1]; refine takeC 5 20 (v := ?_) o5_4_5 rfl (by kernel_rfl) (by kernel_rfl) (by kernel_rfl) (by rfl) (fun _ _ _ h => h) (by rfl) ?y5_6 ?_
   case y5_6 => intro w; go_simp; try with_reducible rfl
   simp only [sE0, sE1]; refine takeC 9 24 (v := ?_) o5_4_9 rfl (by kernel_rfl) (by kernel_rfl) (by kernel_rfl) (by rfl) (fun _ _ _ h => h) (by rfl) ?y9_7 ?_
   case y9_7 => intro w; go_simp; try with_reducible rfl
   simp only [sE0, sE1]; refine takeC 10 25 (v := ?_) o5_4_10 rfl (by kernel_rfl) (by kernel_rfl) (by kernel_rfl) (by rfl) (fun _ _ _ h => h) (by rfl) ?y10_8 ?_
   case y10_8 => intro w; go_simp; try with_reducible rfl
   simp only [sE0, sE1]; refine takeC 11 26 (v := ?_) o5_4_11 rfl (by kernel_rfl) (by kernel_rfl) (by kernel_rfl) (by rfl) (fun _ _ _ h => h) (by rfl) ?y11_9 ?_
   case y11_9 => intro w; go_simp; try with_reducible rfl
   simp only [sE0, sE1]; refine takeC 14 29 (v := ?_) o5_4_14 rfl (by kernel_rfl) (by kernel_rfl) (by kernel_rfl) (by rfl) (fun _ _ _ h => h) (by rfl) ?y14_10 ?_
   case y14_10 => intro w; go_simp; try with_reducible rfl
   simp only [sE0, sE1]; refine loadC 6 21 (v := ?_) o5_4_6 rfl (by kernel_rfl) (by kernel_rfl) (by kernel_rfl) (by kernel_rfl) (fun _ _ _ h => h) (by rfl) ?y6_11 (by exact hC) ?_
   case y6_11 => intro w h; (try dsimp only at h); go_simp; try with_reducible rfl
   simp only [sE0, sE1]; refine loadC 12 27 (v := ?_) o5_4_12 rfl (by kernel_rfl) (by kernel_rfl) (by kernel_rfl) (by kernel_rfl) (fun _ _ _ h => h) (by rfl) ?y12_12 (by exact hC) ?_
   case y12_12 => intro w h; (try dsimp only at h); go_simp; try with_reducible rfl
   simp only [sE0, sE1]; refine readyC (rs := [7, 15]) (by kernel_rfl) (by simp) (each_cons (runC o5_4_7 (by rfl) (fun K hK => ?_)) (each_cons (runC o5_4_15 (by rfl) (fun K hK => ?_)) each_nil))
   ·go_simp
    obtain ⟨v7, W7, e7, f7, hA7, hB7, hX7, hb7⟩ := sls_box3 hX ⟨#[]⟩ ⟨#[115, 97]⟩ s.key; rw [e7, f7]; clear e7 f7; replace hX := hX7; try replace hA15 := hA15.below hb7
    try replace hP := hP.below hb7
    try replace hQ := hQ.below hb7
    try replace hgc := gb_trans hgc (gb_below hb7 _)
    try replace hC := And.intro (below_cell hb7 hC.1) (below_cell hb7 hC.2)
    clear hX7 hb7; go_wp2_with fail
    refine hK.out _ _ (fun _ => ?_) ?_
    ·(exact hC)
    clear hK K; try simp only [Act.put, sEt, sE0, sE1]
    refine readyC (rs := [8, 15]) (by kernel_rfl) (by simp) (each_cons (runC o5_4_8 (by rfl) (fun K hK => ?_)) (each_cons (runC o5_4_15 (by rfl) (fun K hK => ?_)) each_nil))
    ·go_simp
     refine (some_calls B _ _ _ [⟨#[]⟩, ⟨#[115, 97]⟩, s.key] _ hX.st (by omega) hA7 hB7 (by simp)).mono ?_
     rintro e w' ⟨v, ⟨xk, rfl, hxk⟩, rfl, hs', hg'⟩; have Hxk := Lib.hid (show xk.size ≤ 1000 from by simp only [List.mem_cons, List.not_mem_nil, or_false] at hxk; rcases hxk with rfl | rfl | rfl; (· exact by decide); (· exact by decide); (· exact Hst.out.1))
     try replace hA15 := hA15.other hg' hB15
     try replace hC := gb_cellsB hg' hne hC
     try replace hP := hP.other hg' hBw
     try replace hQ := hQ.other hg' hBc
     try replace hgc := gb_trans hgc hg'
     replace hX := hX.step hs' hg' hne hBw; clear hs' hg' hxk hA7 hB7; go_wp2_with fail
     refine hK.out _ _ (fun _ => ?_) ?_
     ·(exact hC)
     clear hK K; try simp only [Act.put, sEt, sE0, sE1]
     refine readyC (rs := [13, 15]) (by kernel_rfl) (by simp) (each_cons (runC o5_4_13 (by rfl) (fun K hK => ?_)) (each_cons (runC o5_4_15 (by rfl) (fun K hK => ?_)) each_nil))
     ·go_simp
      refine (cloneS_calls _ _ _ _ hP).mono ?_; rintro e w' ⟨v13, hQ0, rfl, hb'⟩; have hXc := hX; have hBc := hX.st.lt; have hgc := gb_below hb' (some B); have hQ := (show Cloned _ v13 w' from ⟨_, hQ0, Hst.out.2.1, Hst.out.2.2⟩)
      try replace hA15 := hA15.below hb'
      replace hX := hX.below hb'; replace hC := And.intro (below_cell hb' hC.1) (below_cell hb' hC.2); clear hQ0 hb' hP; go_wp2_with fail
      refine hK.out _ _ (fun h => absurd h (by decide)) ?_
      clear hK K; try simp only [Act.put, sEt, sE0, sE1]
      refine readyC (rs := [15]) (by kernel_rfl) (by simp) (each_cons (runC o5_4_15 (by rfl) (fun K hK => ?_)) each_nil)
      go_simp; obtain ⟨v15, W15, e15, f15, hA15, hB15, hX15, hb15⟩ := sls_box3 hX ⟨#[122, 122]⟩ ⟨#[]⟩ ⟨#[97]⟩; rw [e15, f15]; clear e15 f15; replace hX := hX15; try replace hA7 := hA7.below hb15
      try replace hP := hP.below hb15
      try replace hQ := hQ.below hb15
      try replace hgc := gb_trans hgc (gb_below hb15 _)
      try replace hC := And.intro (below_cell hb15 hC.1) (below_cell hb15 hC.2)
      clear hX15 hb15; go_wp2_with fail
      refine hK.out _ _ (fun _ => ?_) ?_
      ·(exact hC)
      clear hK K; try simp only [Act.put, sEt, sE0, sE1]
      refine sameC (l' := (bQ 25 65535)) (by kernel_rfl) ?_
      first | exact tail v7 v13 v15 xk W15 ⟨Hxk.out, ⟨_, hXc.mono (by omega), hgc, hQ⟩, hX.st.mono (by omega), _, hA15, hB15⟩ | exact tail v7 v13 v15 xk w' ⟨Hxk.out, ⟨_, hXc.mono (by omega), hgc, hQ⟩, hX.st.mono (by omega), _, hA15, hB15⟩
     ·go_simp
      obtain ⟨v15, W15, e15, f15, hA15, hB15, hX15, hb15⟩ := sls_box3 hX ⟨#[122, 122]⟩ ⟨#[]⟩ ⟨#[97]⟩; rw [e15, f15]; clear e15 f15; replace hX := hX15; try replace hA7 := hA7.below hb15
      try replace hP := hP.below hb15
      try replace hQ := hQ.below hb15
      try replace hgc := gb_trans hgc (gb_below hb15 _)
      try replace hC := And.intro (below_cell hb15 hC.1) (below_cell hb15 hC.2)
      clear hX15 hb15; go_wp2_with fail
      refine hK.out _ _ (fun _ => ?_) ?_
      ·(exact hC)
      clear hK K; try simp only [Act.put, sEt, sE0, sE1]
      refine readyC (rs := [13]) (by kernel_rfl) (by simp) (each_cons (runC o5_4_13 (by rfl) (fun K hK => ?_)) each_nil)
      go_simp; refine (cloneS_calls _ _ _ _ hP).mono ?_; rintro e w' ⟨v13, hQ0, rfl, hb'⟩; have hXc := hX; have hBc := hX.st.lt; have hgc := gb_below hb' (some B); have hQ := (show Cloned _ v13 w' from ⟨_, hQ0, Hst.out.2.1, Hst.out.2.2⟩)
      try replace hA15 := hA15.below hb'
      replace hX := hX.below hb'; replace hC := And.intro (below_cell hb' hC.1) (below_cell hb' hC.2); clear hQ0 hb' hP; go_wp2_with fail
      refine hK.out _ _ (fun h => absurd h (by decide)) ?_
      clear hK K; try simp only [Act.put, sEt, sE0, sE1]
      refine sameC (l' := (bQ 25 65535)) (by kernel_rfl) ?_
      first | exact tail v7 v13 v15 xk W15 ⟨Hxk.out, ⟨_, hXc.mono (by omega), hgc, hQ⟩, hX.st.mono (by omega), _, hA15, hB15⟩ | exact tail v7 v13 v15 xk w' ⟨Hxk.out, ⟨_, hXc.mono (by omega), hgc, hQ⟩, hX.st.mono (by omega), _, hA15, hB15⟩
    ·go_simp
     obtain ⟨v15, W15, e15, f15, hA15, hB15, hX15, hb15⟩ := sls_box3 hX ⟨#[122, 122]⟩ ⟨#[]⟩ ⟨#[97]⟩; rw [e15, f15]; clear e15 f15; replace hX := hX15; try replace hA7 := hA7.below hb15
     try replace hP := hP.below hb15
     try replace hQ := hQ.below hb15
     try replace hgc := gb_trans hgc (gb_below hb15 _)
     try replace hC := And.intro (below_cell hb15 hC.1) (below_cell hb15 hC.2)
     clear hX15 hb15; go_wp2_with fail
     refine hK.out _ _ (fun _ => ?_) ?_
     ·(exact hC)
     clear hK K; try simp only [Act.put, sEt, sE0, sE1]
     refine readyC (rs := [8]) (by kernel_rfl) (by simp) (each_cons (runC o5_4_8 (by rfl) (fun K hK => ?_)) each_nil)
     go_simp; refine (some_calls B _ _ _ [⟨#[]⟩, ⟨#[115, 97]⟩, s.key] _ hX.st (by omega) hA7 hB7 (by simp)).mono ?_
     rintro e w' ⟨v, ⟨xk, rfl, hxk⟩, rfl, hs', hg'⟩; have Hxk := Lib.hid (show xk.size ≤ 1000 from by simp only [List.mem_cons, List.not_mem_nil, or_false] at hxk; rcases hxk with rfl | rfl | rfl; (· exact by decide); (· exact by decide); (· exact Hst.out.1))
     try replace hA15 := hA15.other hg' hB15
     try replace hC := gb_cellsB hg' hne hC
     try replace hP := hP.other hg' hBw
     try replace hQ := hQ.other hg' hBc
     try replace hgc := gb_trans hgc hg'
     replace hX := hX.step hs' hg' hne hBw; clear hs' hg' hxk hA7 hB7; go_wp2_with fail
     refine hK.out _ _ (fun _ => ?_) ?_
     ·(exact hC)
     clear hK K; try simp only [Act.put, sEt, sE0, sE1]
     refine readyC (rs := [13]) (by kernel_rfl) (by simp) (each_cons (runC o5_4_13 (by rfl) (fun K hK => ?_)) each_nil)
     go_simp; refine (cloneS_calls _ _ _ _ hP).mono ?_; rintro e w' ⟨v13, hQ0, rfl, hb'⟩; have hXc := hX; have hBc := hX.st.lt; have hgc := gb_below hb' (some B); have hQ := (show Cloned _ v13 w' from ⟨_, hQ0, Hst.out.2.1, Hst.out.2.2⟩)
     try replace hA15 := hA15.below hb'
     replace hX := hX.below hb'; replace hC := And.intro (below_cell hb' hC.1) (below_cell hb' hC.2); clear hQ0 hb' hP; go_wp2_with fail
     refine hK.out _ _ (fun h => absurd h (by decide)) ?_
     clear hK K; try simp only [Act.put, sEt, sE0, sE1]
     refine sameC (l' := (bQ 25 65535)) (by kernel_rfl) ?_
     first | exact tail v7 v13 v15 xk W15 ⟨Hxk.out, ⟨_, hXc.mono (by omega), hgc, hQ⟩, hX.st.mono (by omega), _, hA15, hB15⟩ | exact tail v7 v13 v15 xk w' ⟨Hxk.out, ⟨_, hXc.mono (by omega), hgc, hQ⟩, hX.st.mono (by omega), _, hA15, hB15⟩
   ·go_simp
    obtain ⟨v15, W15, e15, f15, hA15, hB15, hX15, hb15⟩ := sls_box3 hX ⟨#[122, 122]⟩ ⟨#[]⟩ ⟨#[97]⟩; rw [e15, f15]; clear e15 f15; replace hX := hX15; try replace hA7 := hA7.below hb15
    try replace hP := hP.below hb15
    try replace hQ := hQ.below hb15
    try replace hgc := gb_trans hgc (gb_below hb15 _)
    try replace hC := And.intro (below_cell hb15 hC.1) (below_cell hb15 hC.2)
    clear hX15 hb15; go_wp2_with fail
    refine hK.out _ _ (fun _ => ?_) ?_
    ·(exact hC)
    clear hK K; try simp only [Act.put, sEt, sE0, sE1]
    refine readyC (rs := [7]) (by kernel_rfl) (by simp) (each_cons (runC o5_4_7 (by rfl) (fun K hK => ?_)) each_nil)
    go_simp; obtain ⟨v7, W7, e7, f7, hA7, hB7, hX7, hb7⟩ := sls_box3 hX ⟨#[]⟩ ⟨#[115, 97]⟩ s.key; rw [e7, f7]; clear e7 f7; replace hX := hX7; try replace hA15 := hA15.below hb7
    try replace hP := hP.below hb7
    try replace hQ := hQ.below hb7
    try replace hgc := gb_trans hgc (gb_below hb7 _)
    try replace hC := And.intro (below_cell hb7 hC.1) (below_cell hb7 hC.2)
    clear hX7 hb7; go_wp2_with fail
    refine hK.out _ _ (fun _ => ?_) ?_
    ·(exact hC)
    clear hK K; try simp only [Act.put, sEt, sE0, sE1]
    refine readyC (rs := [8]) (by kernel_rfl) (by simp) (each_cons (runC o5_4_8 (by rfl) (fun K hK => ?_)) each_nil)
    go_simp; refine (some_calls B _ _ _ [⟨#[]⟩, ⟨#[115, 97]⟩, s.key] _ hX.st (by omega) hA7 hB7 (by simp)).mono ?_
    rintro e w' ⟨v, ⟨xk, rfl, hxk⟩, rfl, hs', hg'⟩; have Hxk := Lib.hid (show xk.size ≤ 1000 from by simp only [List.mem_cons, List.not_mem_nil, or_false] at hxk; rcases hxk with rfl | rfl | rfl; (· exact by decide); (· exact by decide); (· exact Hst.out.1))
    try replace hA15 := hA15.other hg' hB15
    try replace hC := gb_cellsB hg' hne hC
    try replace hP := hP.other hg' hBw
    try replace hQ := hQ.other hg' hBc
    try replace hgc := gb_trans hgc hg'
    replace hX := hX.step hs' hg' hne hBw; clear hs' hg' hxk hA7 hB7; go_wp2_with fail
    refine hK.out _ _ (fun _ => ?_) ?_
    ·(exact hC)
    clear hK K; try simp only [Act.put, sEt, sE0, sE1]
    refine readyC (rs := [13]) (by kernel_rfl) (by simp) (each_cons (runC o5_4_13 (by rfl) (fun K hK => ?_)) each_nil)
    go_simp; refine (cloneS_calls _ _ _ _ hP).mono ?_; rintro e w' ⟨v13, hQ0, rfl, hb'⟩; have hXc := hX; have hBc := hX.st.lt; have hgc := gb_below hb' (some B); have hQ := (show Cloned _ v13 w' from ⟨_, hQ0, Hst.out.2.1, Hst.out.2.2⟩)
    try replace hA15 := hA15.below hb'
    replace hX := hX.below hb'; replace hC := And.intro (below_cell hb' hC.1) (below_cell hb' hC.2); clear hQ0 hb' hP; go_wp2_with fail
    refine hK.out _ _ (fun h => absurd h (by decide)) ?_
    clear hK K; try simp only [Act.put, sEt, sE0, sE1]
    refine sameC (l' := (bQ 25 65535)) (by kernel_rfl) ?_
    first | exact tail v7 v13 v15 xk W15 ⟨Hxk.out, ⟨_, hXc.mono (by omega), hgc, hQ⟩, hX.st.mono (by omega), _, hA15, hB15⟩ | exact tail v7 v13 v15 xk w' ⟨Hxk.out, ⟨_, hXc.mono (by omega), hgc, hQ⟩, hX.st.mono (by omega), _, hA15, hB15⟩
  ·intro v7 v13 v15 xk W ⟨hxk, ⟨Wc, hXc, hgc, hQ⟩, hsW, _, hA15, hB15⟩
   have Hxk := Lib.hid hxk; have hX := hXc.step hsW hgc hne hBw; have hBc := hXc.st.lt; have hWc := hXc.gb.size; clear hxk hsW; refine readyC (rs := [16]) (by kernel_rfl) (by simp) (each_cons (runC o5_4_16 (by rfl) (fun K hK => ?_)) each_nil)
   go_simp; refine (some_calls B _ _ _ [⟨#[122, 122]⟩, ⟨#[]⟩, ⟨#[97]⟩] _ hX.st (by omega) hA15 hB15 (by simp)).mono ?_
   rintro e w' ⟨v, ⟨xp, rfl, hxp⟩, rfl, hs', hg'⟩; have Hxp := Lib.hid (show xp.size ≤ 1000 from by simp only [List.mem_cons, List.not_mem_nil, or_false] at hxp; rcases hxp with rfl | rfl | rfl; (· exact by decide); (· exact by decide); (· exact by decide))
   try replace hA7 := hA7.other hg' hB7
   try replace hC := gb_cellsB hg' hne hC
   try replace hP := hP.other hg' hBw
   try replace hQ := hQ.other hg' hBc
   try replace hgc := gb_trans hgc hg'
   replace hX := hX.step hs' hg' hne hBw; clear hs' hg' hxp hA15 hB15; go_wp2_with fail
   refine hK.out _ _ (fun h => absurd h (by decide)) ?_
   clear hK K; try simp only [Act.put, sEt, sE0, sE1]
   refine readyC (rs := [17]) (by kernel_rfl) (by simp) (each_cons (runC o5_4_17 (by rfl) (fun K hK => ?_)) each_nil)
   go_simp; have hQ1 := hQ.below (below_alloc _ (.cells #[.string xp] 9)); replace hX := hX.alloc (.cells #[.string xp] 9); replace hgc := gb_trans hgc (gb_alloc _ (.cells #[.string xp] 9) _); clear hQ; go_wp2_with fail
   refine hK.out _ _ (fun h => absurd h (by decide)) ?_
   clear hK K; try simp only [Act.put, sEt, sE0, sE1]
   refine readyC (rs := [18]) (by kernel_rfl) (by simp) (each_cons (runC o5_4_18 (by rfl) (fun K hK => ?_)) each_nil)
   obtain ⟨qs, hq1, hq2, hq3⟩ := hQ1; have Hq3 := Lib.hid hq3; clear hq3; refine wp_append_at _ (Operand.tmp 28) (Operand.tmp 32) 39 rfl Wc.heap.size 9 i0 (.string ⟨#[]⟩) 1 16 Tryz.underlying39 HI.out hz0 hz1 hz2 rfl (by decide) _ _ _ rfl hq1 _ 1 1 [.string xp] rfl rfl (cells_new _ _ _) (by simp [Value.oneCell']) (by unfold maxLen; omega) (by omega) hgc.size ?_
   intro v18 w8 hown8 hgrow; have hS8 : Strs w8 w.heap.size v18 (qs ++ [xp]) := strs_of_owns (own_mono (by simpa using hown8) hWc) (by simp; omega)
   have hs8 := hX.st.grown hgrow fun r hr => by have := (own_block hq1 r hr).1; omega
   replace hgc := gb_then hgc hgrow fun r hr => (own_block hq1 r hr).1
   replace hX := hXc.step hs8 hgc hne hBw; clear hgrow hown8 hq1 hs8 hgc hXc; obtain ⟨ks, hkl, Hks, hS8⟩ : ∃ ks : List ByteArray, ks.length ≤ 5 ∧ Hid (∀ y ∈ ks, y.size ≤ 1000) ∧ Strs w8 w.heap.size v18 ks := ⟨qs ++ [xp], by simp; omega, Lib.hid fun y hy => by rcases List.mem_append.1 hy with h | h; (· exact Hq3.out y h); (· obtain rfl := List.mem_singleton.1 h; exact Hxp.out), hS8⟩
   obtain ⟨xa, xc, rfl⟩ := strs_shape hS8; refine hK.out _ _ (fun h => absurd h (by decide)) ?_
   clear hK K; try simp only [Act.put, sEt, sE0, sE1]
   refine takeC 19 34 (v := ?_) o5_4_19 rfl (by kernel_rfl) (by kernel_rfl) (by kernel_rfl) (by rfl) (fun _ _ _ h => h) (by rfl) ?y19_13 ?_
   case y19_13 => intro w; go_simp; try with_reducible rfl
   simp only [sE0, sE1]; refine takeC 20 35 (v := ?_) o5_4_20 rfl (by kernel_rfl) (by kernel_rfl) (by kernel_rfl) (by rfl) (fun _ _ _ h => h) (by rfl) ?y20_14 ?_
   case y20_14 => intro w; go_simp; try with_reducible rfl
   simp only [sE0, sE1]; refine readyC (rs := [21]) (by kernel_rfl) (by simp) (each_cons (runC o5_4_21 (by rfl) (fun K hK => ?_)) each_nil)
   obtain ⟨d0, d1, z0, z1, zf⟩ := hX.cells; go_simp; replace hS8 := hX.strs (o := i * 2) hS8 (.string xk); replace hX := hX.key hBw hgb xk Hxk.out; clear z0 z1 zf; refine hK.out _ _ (fun h => absurd h (by decide)) ?_
   clear hK K; try simp only [sEt, sE0, sE1]
   refine takeC 22 36 (v := ?_) o5_4_22 rfl (by kernel_rfl) (by kernel_rfl) (by kernel_rfl) (by rfl) (fun _ _ _ h => h) (by rfl) ?y22_15 ?_
   case y22_15 => intro w; go_simp; try with_reducible rfl
   simp only [sE0, sE1]; refine takeC 23 37 (v := ?_) o5_4_23 rfl (by kernel_rfl) (by kernel_rfl) (by kernel_rfl) (by rfl) (fun _ _ _ h => h) (by rfl) ?y23_16 ?_
   case y23_16 => intro w; go_simp; try with_reducible rfl
   simp only [sE0, sE1]; refine readyC (rs := [24]) (by kernel_rfl) (by simp) (each_cons (runC o5_4_24 (by rfl) (fun K hK => ?_)) each_nil)
   obtain ⟨d0, d1, z0, z1, zf⟩ := hX.cells; go_simp; have hX9 := hX.pos hBw hgb _ ks hS8 ⟨hkl, Hks.out⟩; clear z0 z1 zf hX hS8; refine hK.out _ _ (fun h => absurd h (by decide)) ?_
   clear hK K; try simp only [sEt, sE0, sE1]
   refine doneC (by kernel_rfl) ?_ _
   go_wp2_with fail
   refine (flip_calls B _ 40 _ hX9.st (by omega) (by omega) (by omega)).mono ?_
   rintro e w3 ⟨v, ⟨b, rfl⟩, rfl, hs3, hg3⟩; cases b
   ·go_wp2_with fail
    go_ret
    have hY := hX9.step hs3 hg3 hne hBw; exact ⟨_, hY.made hx4 hle hgb, rfl, hY.st.mono (by omega), hY.gb⟩
   ·go_wp2_with fail
    go_ret
    exact ⟨_, ⟨[], ⟨[], rfl, ⟨by simp [nRows], by simp [nRows], .inl ⟨rfl, rfl⟩⟩, by simp⟩, by simp, by simp⟩, rfl, hs3.mono (by omega), gb_trans hX9.gb hg3⟩
end Go.Proofs.YtfcaokpadodijaaGreat
