/- More plain facts on worlds. -/
import Derived.WalkKit
import Derived.WalkSpells
import Derived.WalkLawsBesides
import Derived.Deep.QuietTactic
import Derived.BigQuiet
import Derived.RegionTactic
import Derived.Lib.Hide
/- Plain facts on worlds that all walks of this family use: what a slice reads as, and that it stays so. -/
namespace Go.Proofs.YtddnnjblpgfjeaaGreatDoor
/-- Which of n have come up, by the bits of m. -/
def bQ (n m : Nat) : Array Bool := ((List.range n).map fun i => m.testBit i).toArray
theorem sE0 {α : Type} {a b : α} {l : List α} : (a :: l).set 0 b = b :: l := rfl
theorem sE1 {α : Type} {a b : α} {l : List α} {n : Nat} : (a :: l).set (n + 1) b = a :: l.set n b := rfl
theorem sEt {α : Type} {l : List α} {i : Nat} {a : α} : l.toArray.setIfInBounds i a = (l.set i a).toArray := List.setIfInBounds_toArray ..
open Go.RowKit

theorem ret_int {k : IntKind} {a b : Int} (h : a = b) : Ending.returned (.int k a) = .returned (.int k b) := by rw [h]
theorem ret_bool {a b : Bool} (h : a = b) : Ending.returned (.bool a) = .returned (.bool b) := by rw [h]
/-- A slice value of rows, each of sz cells, in a block of element type T from lo on; nil if there is none. -/
structure Rows (w : World) (T lo sz : Nat) (v : Value) (rows : List (List Value)) : Prop where
 small : rows.length ≤ 1000000
 each : ∀ r ∈ rows, r.length = sz
 shape : (v = .slice none 0 0 ∧ rows = []) ∨ ∃ (g off cap : Nat) (cur : Array Value) (fr : Nat × Nat), v = .slice (some ⟨g, off, none⟩) rows.length cap ∧ (lo ≤ g ∧ rows.length ≤ cap) ∧
  w.heap[g]? = some (.cells cur T fr) ∧ ∀ (i j : Nat) (u : Value), (rows[i]?.getD [])[j]? = some u → cur[off + i * sz + j]? = some u

theorem Rows.lift {w w' : World} {T lo sz : Nat} {v : Value} {rows : List (List Value)} (h : Rows w T lo sz v rows)
  (hc : ∀ g cur fr, lo ≤ g → w.heap[g]? = some (.cells cur T fr) → w'.heap[g]? = w.heap[g]?) : Rows w' T lo sz v rows := by
 refine ⟨h.small, h.each, ?_⟩
 rcases h.shape with h1 | ⟨g, off, cap, cur, fr, e, h2, h3, h4⟩
 ·exact .inl h1
 ·exact .inr ⟨g, off, cap, cur, fr, e, h2, (hc g cur fr h2.1 h3).trans h3, h4⟩
theorem lt_of_heap {w : World} {g : Nat} {o : Obj} (h : w.heap[g]? = some o) : g < w.heap.size := (Array.getElem?_eq_some_iff.1 h).1
theorem Rows.below {w w' : World} {T lo sz : Nat} {v : Value} {rows : List (List Value)} (h : Rows w T lo sz v rows) (hb : Below w.heap.size w w') : Rows w' T lo sz v rows :=
 h.lift fun g _ _ _ h3 => hb.block g (lt_of_heap h3)
/-- A change of one block of another element type leaves it. -/
theorem Rows.row {w w' : World} {T lo sz : Nat} {row : Option Nat} {v : Value} {rows : List (List Value)} (h : Rows w T lo sz v rows) (hg : w.grownBy w' row)
  (hr : ∀ r, row = some r → ∃ cur T' fr, w.heap[r]? = some (.cells cur T' fr) ∧ T' ≠ T) : Rows w' T lo sz v rows :=
 h.lift fun g cur fr _ h3 => hg.block g (lt_of_heap h3) fun e => by
  obtain ⟨cur', T', fr', h4, hne⟩ := hr g e.symm; rw [h3] at h4
  cases h4
  exact hne rfl
theorem Rows.other {w w' : World} {T lo sz B : Nat} {v : Value} {rows : List (List Value)} (h : Rows w T lo sz v rows) (hg : w.grownBy w' (some B)) (hB : B < lo) : Rows w' T lo sz v rows :=
 h.lift fun g _ _ h2 h3 => hg.block g (lt_of_heap h3) (by simp; omega)
theorem Rows.mono {w : World} {T lo lo' sz : Nat} {v : Value} {rows : List (List Value)} (h : Rows w T lo sz v rows) (hl : lo' ≤ lo) : Rows w T lo' sz v rows := by
 refine ⟨h.small, h.each, ?_⟩
 rcases h.shape with h1 | ⟨g, off, cap, cur, fr, e, h2, h3, h4⟩
 ·exact .inl h1
 ·exact .inr ⟨g, off, cap, cur, fr, e, ⟨Nat.le_trans hl h2.1, h2.2⟩, h3, h4⟩
/-- The same, cell by cell. -/
theorem rows_at {w : World} {T lo sz : Nat} {v : Value} {rows : List (List Value)} (h : Rows w T lo sz v rows) :
  (v = .slice none 0 0 ∧ rows = []) ∨ ∃ (g off cap : Nat), v = .slice (some ⟨g, off, none⟩) rows.length cap ∧ lo ≤ g ∧ g < w.heap.size ∧
   ∀ (i j : Nat) (u : Value), (rows[i]?.getD [])[j]? = some u → w.cell? ⟨g, off + i * sz + j, none⟩ = some u := by
 rcases h.shape with h1 | ⟨g, off, cap, cur, fr, e, h2, h3, h4⟩
 ·exact .inl h1
 ·exact .inr ⟨g, off, cap, e, h2.1, lt_of_heap h3, fun i j u hu => by rw [cell_of_row w g _ cur T fr h3]; exact h4 i j u hu⟩
/-- What a call owns is such a slice. -/
theorem flat_at {sz : Nat} : ∀ (rows : List (List Value)), (∀ r ∈ rows, r.length = sz) → ∀ (i j : Nat) (u : Value), (rows[i]?.getD [])[j]? = some u → rows.flatten[i * sz + j]? = some u
 | [], _, i, j, u, h => by simp at h
 | r :: rs, hr, 0, j, u, h => by
  have hj : j < r.length := (List.getElem?_eq_some_iff.1 (show r[j]? = some u from h)).1
  simp only [List.flatten_cons, Nat.zero_mul, Nat.zero_add]; rw [List.getElem?_append_left hj]; exact h
 | r :: rs, hr, i + 1, j, u, h => by
  have h0 := hr r (by simp)
  simp only [List.flatten_cons]; rw [List.getElem?_append_right (by rw [h0, Nat.add_mul]; omega), h0, show (i + 1) * sz + j - sz = i * sz + j by rw [Nat.add_mul]; omega]
  exact flat_at rs (fun r h => hr r (by simp [h])) i j u (by simpa using h)
theorem Rows.of_owns {w : World} {T base sz : Nat} {v : Value} {rows : List (List Value)} (h : w.ownsRow base T sz v rows.length rows.flatten) (hs : rows.length ≤ 1000000) (hr : ∀ r ∈ rows, r.length = sz) : Rows w T base sz v rows := by
 refine ⟨hs, hr, ?_⟩
 rcases h.2 with ⟨e, hn⟩ | ⟨g, cap, cur, e, hb, hg, hle, _, _, ht⟩
 ·exact .inl ⟨e, List.eq_nil_of_length_eq_zero hn⟩
 ·refine .inr ⟨g, 0, cap, cur, (0, 0), e, ⟨hb, hle⟩, hg, fun i j u hu => ?_⟩
  have h1 := flat_at rows hr i j u hu; rw [← ht, List.getElem?_take] at h1
  rw [Nat.zero_add]; split at h1
  ·simpa using h1
  ·cases h1
/-- The block of an owned row, and its type. -/
theorem own_block {w : World} {base e size : Nat} {v : Value} {n : Nat} {xs : List Value} (h : w.ownsRow base e size v n xs) : ∀ r, v.ownBlock = some r → base ≤ r ∧ ∃ cur, w.heap[r]? = some (.cells cur e (0, 0)) := by
 intro r hr
 rcases h.2 with ⟨rfl, _⟩ | ⟨g, cap, cur, rfl, hb, hg, _⟩
 ·simp [Value.ownBlock] at hr
 ·simp [Value.ownBlock] at hr
  subst hr
  exact ⟨hb, cur, hg⟩

/-- A slice of strings. -/
def Strs (w : World) (lo : Nat) (v : Value) (ks : List ByteArray) : Prop := Rows w 9 lo 1 v (ks.map fun k => [.string k])

/-- Are two strings one? -/
def beqS (a b : ByteArray) : Bool := a.toList == b.toList
theorem Strs.below {w w' : World} {lo : Nat} {v : Value} {ks : List ByteArray} (h : Strs w lo v ks) (hb : Below w.heap.size w w') : Strs w' lo v ks := Rows.below h hb
theorem Strs.other {w w' : World} {lo B : Nat} {v : Value} {ks : List ByteArray} (h : Strs w lo v ks) (hb : w.grownBy w' (some B)) (hB : B < lo) : Strs w' lo v ks := Rows.other h hb hB
theorem Strs.row {w w' : World} {lo : Nat} {row : Option Nat} {v : Value} {ks : List ByteArray} (h : Strs w lo v ks) (hg : w.grownBy w' row)
  (hr : ∀ r, row = some r → ∃ cur T' fr, w.heap[r]? = some (.cells cur T' fr) ∧ T' ≠ 9) : Strs w' lo v ks := Rows.row h hg hr
theorem Strs.mono {w : World} {lo lo' : Nat} {v : Value} {ks : List ByteArray} (h : Strs w lo v ks) (hl : lo' ≤ lo) : Strs w lo' v ks := Rows.mono h hl
theorem below_alloc (w : World) (o : Obj) : Below w.heap.size w (w.alloc o) := (Below.refl _ _).alloc (Nat.le_refl _) _
theorem below_cell {w w' : World} (hb : Below w.heap.size w w') {g o : Nat} {v : Value} (h : w.cell? ⟨g, o, none⟩ = some v) : w'.cell? ⟨g, o, none⟩ = some v := cell_later hb h

theorem gb_trans {a b c : World} {row : Option Nat} (h : a.grownBy b row) (k : b.grownBy c row) : a.grownBy c row :=
 ⟨k.os.trans h.os, k.tape.trans h.tape, k.output.trans h.output, Nat.le_trans h.size k.size, fun j hj hr => (k.block j (Nat.lt_of_lt_of_le hj h.size) hr).trans (h.block j hj hr)⟩
theorem gb_refl (w : World) (row : Option Nat) : w.grownBy w row := ⟨rfl, rfl, rfl, Nat.le_refl _, fun _ _ _ => rfl⟩
theorem gb_alloc (w : World) (o : Obj) (row : Option Nat) : w.grownBy (w.alloc o) row := World.grownBy_alloc w o row
theorem gb_below {w w' : World} (h : Below w.heap.size w w') (row : Option Nat) : w.grownBy w' row := ⟨h.os, h.tape, h.output, h.size, fun k hk _ => h.block k hk⟩
theorem gb_then {a b c : World} {B : Nat} {row : Option Nat} (h : a.grownBy b (some B)) (k : b.grownBy c row) (hr : ∀ r, row = some r → a.heap.size ≤ r) : a.grownBy c (some B) :=
 ⟨k.os.trans h.os, k.tape.trans h.tape, k.output.trans h.output, Nat.le_trans h.size k.size, fun j hj hne => by
  refine (k.block j (Nat.lt_of_lt_of_le hj h.size) fun e => ?_).trans (h.block j hj hne)
  have := hr j e.symm; omega⟩
theorem gb_cell {w w' : World} {B g o : Nat} {v : Value} (hg : w.grownBy w' (some B)) (h : w.cell? ⟨g, o, none⟩ = some v) (hne : g ≠ B) : w'.cell? ⟨g, o, none⟩ = some v :=
 hg.cell h (by simpa using hne)
theorem gb_drewN (w : World) (n : Nat) (row : Option Nat) : w.grownBy (w.drewN n) row := ⟨rfl, rfl, rfl, Nat.le_refl _, fun _ _ _ => rfl⟩
theorem gb_setCell (w : World) (B o : Nat) (v : Value) : w.grownBy (w.setCell ⟨B, o, none⟩ v) (some B) :=
 ⟨rfl, rfl, rfl, by simp, fun k _ hne => Below.heap_setCell w _ v k (by simpa using hne)⟩

/-- The stream lies in block B: its list, in a block below B; at most N numbers have been handed out. -/
def Stm (w : World) (T B N : Nat) : Prop := ∃ (lv : Value) (k : Nat), w.heap[B]? = some (.cells #[lv, .int .i64 (k : Int)] T (0, 0)) ∧ k ≤ N ∧
 ((∃ a c, lv = .slice a 0 c) ∨ ∃ b off len cap, lv = .slice (some ⟨b, off, none⟩) len cap ∧ b < B ∧ len ≤ 140737488355328 ∧ ∀ j, j < len → ∃ x : Int, w.cell? ⟨b, off + j, none⟩ = some (.int .i64 x))
theorem Stm.lift {w w' : World} {T B N : Nat} (h : Stm w T B N) (hc : ∀ k, k < B + 1 → w'.heap[k]? = w.heap[k]?) : Stm w' T B N := by
 obtain ⟨lv, k, h1, h2, h3⟩ := h
 refine ⟨lv, k, (hc B (by omega)).trans h1, h2, ?_⟩
 rcases h3 with h3 | ⟨b, off, len, cap, e, hb, hl, hx⟩
 ·exact .inl h3
 ·exact .inr ⟨b, off, len, cap, e, hb, hl, fun j hj => by obtain ⟨x, hx'⟩ := hx j hj; exact ⟨x, (World.cell?_of_block (hc b (by omega))).trans hx'⟩⟩
theorem Stm.lt {w : World} {T B N : Nat} (h : Stm w T B N) : B < w.heap.size := by
 obtain ⟨lv, k, h1, _⟩ := h
 exact (Array.getElem?_eq_some_iff.1 h1).1
theorem Stm.below {w w' : World} {T B N : Nat} (h : Stm w T B N) (hb : Below w.heap.size w w') : Stm w' T B N := h.lift fun k hk => hb.block k (by have := h.lt; omega)
theorem Stm.grown {w w' : World} {T B N : Nat} (h : Stm w T B N) {row : Option Nat} (hb : w.grownBy w' row) (hr : ∀ r, row = some r → B < r) : Stm w' T B N :=
 h.lift fun k hk => hb.block k (by have := h.lt; omega) fun e => by have := hr k e.symm; omega
theorem Stm.alloc {w : World} {T B N : Nat} (h : Stm w T B N) (o : Obj) : Stm (w.alloc o) T B N := h.below (below_alloc w o)
theorem Stm.mono {w : World} {T B N N' : Nat} (h : Stm w T B N) (hN : N ≤ N') : Stm w T B N' := by
 obtain ⟨lv, k, h1, h2, h3⟩ := h
 exact ⟨lv, k, h1, Nat.le_trans h2 hN, h3⟩

/-- What a function answers that draws from the stream: a value that has P; the stream has moved on, all else stays. -/
def Drawn (T B N : Nat) (P : Value → Prop) (w : World) (e : Ending) (w' : World) : Prop := ∃ v, P v ∧ e = .returned v ∧ Stm w' T B N ∧ w.grownBy w' (some B)

theorem strs_new (w : World) (ks : List ByteArray) (h : ks.length ≤ 1000000) :
  Strs (w.alloc (.cells (ks.map Value.string).toArray 9)) w.heap.size (.slice (some ⟨w.heap.size, 0, none⟩) ks.length ks.length) ks := by
 refine ⟨by simpa using h, by simp, .inr ⟨w.heap.size, 0, ks.length, _, (0, 0), by simp, ⟨Nat.le_refl _, by simp⟩, heap_alloc_new w _, fun i j u hu => ?_⟩⟩
 have hj : (ks.map fun k => [Value.string k])[i]?.getD [] = (ks[i]?.map fun k => [Value.string k]).getD [] := by simp
 rw [hj] at hu
 cases hk : ks[i]? with
 | none => simp [hk] at hu
 | some k =>
  rw [hk] at hu
  simp only [Option.map_some, Option.getD_some] at hu
  match j, hu with
  | 0, hu =>
   have : u = .string k := by simpa using hu.symm
   subst this; simp [hk]
/-- The strings of a slice, one by one. -/
theorem strs_at {w : World} {lo : Nat} {v : Value} {ks : List ByteArray} (h : Strs w lo v ks) :
  (v = .slice none 0 0 ∧ ks = []) ∨ ∃ g off cap, v = .slice (some ⟨g, off, none⟩) ks.length cap ∧ lo ≤ g ∧ g < w.heap.size ∧ ks.length ≤ 1000000 ∧
   ∀ (i : Nat) (k : ByteArray), ks[i]? = some k → w.cell? ⟨g, off + i, none⟩ = some (.string k) := by
 rcases rows_at h with ⟨e1, e2⟩ | ⟨g, off, cap, e1, e2, e3, hc⟩
 ·exact .inl ⟨e1, by simpa using e2⟩
 ·refine .inr ⟨g, off, cap, by simpa using e1, e2, e3, by simpa using h.small, fun i k hk => ?_⟩
  have := hc i 0 (.string k) (by simp [hk])
  simpa using this
theorem flatten_single {α : Type} (f : α → Value) : ∀ ks : List α, (ks.map fun k => [f k]).flatten = ks.map f
 | [] => rfl
 | k :: ks => by simp [flatten_single f ks]
theorem strs_of_owns {w : World} {base : Nat} {v : Value} {ks : List ByteArray} (h : w.ownsRow base 9 1 v ks.length (ks.map .string)) (hs : ks.length ≤ 1000000) : Strs w base v ks :=
 Rows.of_owns (by rw [flatten_single]; simpa using h) (by simpa using hs) (by simp)
/-- The shape of an owned slice's value. -/
theorem owns_shape {w : World} {base e size : Nat} {v : Value} {n : Nat} {xs : List Value} (h : w.ownsRow base e size v n xs) : ∃ a c, v = .slice a n c := by
 rcases h.2 with ⟨rfl, rfl⟩ | ⟨g, cap, _, rfl, _⟩
 ·exact ⟨none, 0, rfl⟩
 ·exact ⟨_, _, rfl⟩
/-- One cell of a slice of rows is written. -/
theorem Rows.set {w : World} {T lo sz g off cap n : Nat} {rows : List (List Value)} (h : Rows w T lo sz (.slice (some ⟨g, off, none⟩) n cap) rows) {i f : Nat} {row : List Value} (hi : rows[i]? = some row) (hf : f < sz) (u : Value) :
  Rows (w.setCell ⟨g, off + i * sz + f, none⟩ u) T lo sz (.slice (some ⟨g, off, none⟩) n cap) (rows.set i (row.set f u)) := by
 have hrow : row.length = sz := h.each row (List.mem_of_getElem? hi)
 refine ⟨by simpa using h.small, fun r hr => ?_, ?_⟩
 ·rcases List.mem_or_eq_of_mem_set hr with hr | rfl
  ·exact h.each r hr
  ·simpa using hrow
 rcases h.shape with ⟨h1, _⟩ | ⟨g', off', cap', cur, fr, e, h2, h3, h4⟩
 ·simp at h1
 ·simp only [Value.slice.injEq, Option.some.injEq, Addr.mk.injEq, and_true] at e
  obtain ⟨⟨rfl, rfl⟩, rfl, rfl⟩ := e
  refine .inr ⟨g, off, cap, cur.setIfInBounds (off + i * sz + f) u, fr, by simp, ⟨h2.1, by simpa using h2.2⟩, ?_, fun i' j' u' hu => ?_⟩
  ·simp [World.setCell, Array.getElem?_modify, h3]
  ·have hsz : (cur[off + i * sz + f]?).isSome := by
    have : (rows[i]?.getD [])[f]? = some (row[f]'(by omega)) := by rw [hi]; simp
    rw [h4 i f _ this]; rfl
   have hlt : off + i * sz + f < cur.size := by
    rcases Nat.lt_or_ge (off + i * sz + f) cur.size with h | h
    ·exact h
    ·rw [Array.getElem?_eq_none h] at hsz; simp at hsz
   have hi' : i < rows.length := (List.getElem?_eq_some_iff.1 hi).1
   by_cases hii : i' = i
   ·subst hii
    rw [List.getElem?_set_self (by simpa using hi')] at hu
    simp only [Option.getD_some] at hu
    by_cases hjf : j' = f
    ·subst hjf
     rw [List.getElem?_set_self (by omega)] at hu
     rw [Array.getElem?_setIfInBounds_self_of_lt hlt]; exact hu
    ·rw [List.getElem?_set_ne (fun e => hjf e.symm)] at hu
     rw [Array.getElem?_setIfInBounds_ne (by omega)]
     exact h4 i' j' u' (by rw [hi]; exact hu)
   ·rw [List.getElem?_set_ne (fun e => hii e.symm)] at hu
    have hj' : j' < sz := by
     cases hr : rows[i']? with
     | none => rw [hr] at hu; simp at hu
     | some r =>
      rw [hr] at hu
      have := h.each r (List.mem_of_getElem? hr)
      have := (List.getElem?_eq_some_iff.1 hu).1
      simp at this
      omega
    have hne : off + i * sz + f ≠ off + i' * sz + j' := by
     intro e; rcases Nat.lt_or_gt_of_ne hii with h | h
     ·have := Nat.mul_le_mul_right sz (show i' + 1 ≤ i by omega)
      rw [Nat.add_mul] at this; omega
     ·have := Nat.mul_le_mul_right sz (show i + 1 ≤ i' by omega)
      rw [Nat.add_mul] at this; omega
    rw [Array.getElem?_setIfInBounds_ne hne]; exact h4 i' j' u' hu
/-- The rows of a block that may be written. -/
def RowsAt (w : World) (T g off sz : Nat) (rows : List (List Value)) : Prop :=
 (∀ r ∈ rows, r.length = sz) ∧ ∃ cur : Array Value, w.heap[g]? = some (.cells cur T (0, 0)) ∧ off + rows.length * sz ≤ cur.size ∧
  ∀ (i j : Nat) (u : Value), (rows[i]?.getD [])[j]? = some u → cur[off + i * sz + j]? = some u
theorem RowsAt.rows {w : World} {T g off sz lo cap : Nat} {rows : List (List Value)} (h : RowsAt w T g off sz rows) (hn : rows.length ≤ 1000000) (hl : lo ≤ g) (hcap : rows.length ≤ cap) : Rows w T lo sz (.slice (some ⟨g, off, none⟩) rows.length cap) rows := by
 obtain ⟨h1, cur, h2, h3, h4⟩ := h
 exact ⟨hn, h1, .inr ⟨g, off, cap, cur, (0, 0), rfl, ⟨hl, hcap⟩, h2, h4⟩⟩
theorem RowsAt.lift {w w' : World} {T g off sz : Nat} {rows : List (List Value)} (h : RowsAt w T g off sz rows) (hg : w'.heap[g]? = w.heap[g]?) : RowsAt w' T g off sz rows := by
 obtain ⟨h1, cur, h2, h3, h4⟩ := h
 exact ⟨h1, cur, hg.trans h2, h3, h4⟩
theorem RowsAt.lt {w : World} {T g off sz : Nat} {rows : List (List Value)} (h : RowsAt w T g off sz rows) : g < w.heap.size := by
 obtain ⟨_, cur, h2, _⟩ := h; exact lt_of_heap h2
theorem RowsAt.below {w w' : World} {T g off sz : Nat} {rows : List (List Value)} (h : RowsAt w T g off sz rows) (hb : Below w.heap.size w w') : RowsAt w' T g off sz rows := h.lift (hb.block g h.lt)
theorem RowsAt.free {w : World} {T g off sz : Nat} {rows : List (List Value)} (h : RowsAt w T g off sz rows) (o : Nat) : w.frozen? ⟨g, o, none⟩ = false := by
 obtain ⟨_, cur, h2, _⟩ := h; simp [World.frozen?, h2]
theorem RowsAt.cell {w : World} {T g off sz : Nat} {rows : List (List Value)} (h : RowsAt w T g off sz rows) {i j : Nat} {r : List Value} {u : Value} (hi : rows[i]? = some r) (hj : r[j]? = some u) : w.cell? ⟨g, off + i * sz + j, none⟩ = some u := by
 obtain ⟨_, cur, h2, _, h4⟩ := h
 rw [cell_of_row w g _ cur T (0, 0) h2]
 exact h4 i j u (by rw [hi]; exact hj)
theorem RowsAt.of_owns {w : World} {T base sz g off n cap : Nat} {rows : List (List Value)} (h : w.ownsRow base T sz (.slice (some ⟨g, off, none⟩) n cap) rows.length rows.flatten) (hr : ∀ r ∈ rows, r.length = sz) : RowsAt w T g off sz rows ∧ base ≤ g := by
 rcases h.2 with ⟨e, _⟩ | ⟨g', cap', cur, e, hb, hg, hle, _, hsz, ht⟩
 ·simp at e
 ·simp only [Value.slice.injEq, Option.some.injEq, Addr.mk.injEq, and_true] at e
  obtain ⟨⟨rfl, rfl⟩, _, rfl⟩ := e
  refine ⟨⟨hr, cur, hg, ?_, fun i j u hu => ?_⟩, hb⟩
  ·rw [hsz, Nat.zero_add]; exact Nat.mul_le_mul_right _ hle
  ·have h1 := flat_at rows hr i j u hu
   rw [← ht, List.getElem?_take] at h1
   rw [Nat.zero_add]; split at h1
   ·simpa using h1
   ·cases h1
theorem RowsAt.set {w : World} {T g off sz : Nat} {rows : List (List Value)} (h : RowsAt w T g off sz rows) {i f : Nat} {row : List Value} (hi : rows[i]? = some row) (hf : f < sz) (u : Value) :
  RowsAt (w.setCell ⟨g, off + i * sz + f, none⟩ u) T g off sz (rows.set i (row.set f u)) := by
 obtain ⟨h1, cur, h2, h3, h4⟩ := h
 have hi' : i < rows.length := (List.getElem?_eq_some_iff.1 hi).1
 have hrow : row.length = sz := h1 row (List.mem_of_getElem? hi)
 have hlt : off + i * sz + f < cur.size := by
  have := Nat.mul_le_mul_right sz (show i + 1 ≤ rows.length by omega)
  rw [Nat.add_mul] at this; omega
 refine ⟨fun r hr => ?_, cur.setIfInBounds (off + i * sz + f) u, by simp [World.setCell, Array.getElem?_modify, h2], by simpa using h3, fun i' j' u' hu => ?_⟩
 ·rcases List.mem_or_eq_of_mem_set hr with hr | rfl
  ·exact h1 r hr
  ·simpa using hrow
 ·by_cases hii : i' = i
  ·subst hii
   rw [List.getElem?_set_self (by simpa using hi')] at hu
   simp only [Option.getD_some] at hu
   by_cases hjf : j' = f
   ·subst hjf
    rw [List.getElem?_set_self (by omega)] at hu
    rw [Array.getElem?_setIfInBounds_self_of_lt hlt]; exact hu
   ·rw [List.getElem?_set_ne (fun e => hjf e.symm)] at hu
    rw [Array.getElem?_setIfInBounds_ne (by omega)]
    exact h4 i' j' u' (by rw [hi]; exact hu)
  ·rw [List.getElem?_set_ne (fun e => hii e.symm)] at hu
   have hj' : j' < sz := by
    cases hr : rows[i']? with
    | none => rw [hr] at hu; simp at hu
    | some r =>
     rw [hr] at hu
     have := h1 r (List.mem_of_getElem? hr)
     have := (List.getElem?_eq_some_iff.1 hu).1
     simp at this
     omega
   have hne : off + i * sz + f ≠ off + i' * sz + j' := by
    intro e; rcases Nat.lt_or_gt_of_ne hii with h | h
    ·have := Nat.mul_le_mul_right sz (show i' + 1 ≤ i by omega)
     rw [Nat.add_mul] at this; omega
    ·have := Nat.mul_le_mul_right sz (show i + 1 ≤ i' by omega)
     rw [Nat.add_mul] at this; omega
   rw [Array.getElem?_setIfInBounds_ne hne]; exact h4 i' j' u' hu
theorem RowsAt.take {w : World} {T g off sz : Nat} {rows : List (List Value)} (h : RowsAt w T g off sz rows) (n : Nat) : RowsAt w T g off sz (rows.take n) := by
 obtain ⟨h1, cur, h2, h3, h4⟩ := h
 refine ⟨fun r hr => h1 r (List.mem_of_mem_take hr), cur, h2, ?_, fun i j u hu => ?_⟩
 ·have := Nat.mul_le_mul_right sz (List.length_take_le n rows)
  have h5 : (rows.take n).length ≤ rows.length := List.length_take_le' n rows
  have := Nat.mul_le_mul_right sz h5
  omega
 ·refine h4 i j u ?_
  rw [List.getElem?_take] at hu
  split at hu
  ·exact hu
  ·simp at hu
end Go.Proofs.YtddnnjblpgfjeaaGreatDoor
namespace Go.Proofs.YtddnnjblpgfjeaaGreatDoor
open Go.RowKit

theorem RowsAt.heap {w : World} {T g off sz : Nat} {rows : List (List Value)} (h : RowsAt w T g off sz rows) : ∃ cur, w.heap[g]? = some (.cells cur T (0, 0)) := by
 obtain ⟨_, cur, h2, _⟩ := h; exact ⟨cur, h2⟩

/-- clear on a tail of a slice of rows: the block's cells ahead of it stay. -/
theorem run_clear_rows {P : Program} {w : World} {T t ty g off sz i n cap : Nat} {z : Value} {rows : List (List Value)} (ht : P.underlying t = some (.slice T)) (hv : ∀ w, (zeroValue T).run P w = .ok z w) (hz : z.cells.size = sz) (h1 : ∀ u ∈ z.cells.toList, u.oneCell' = true)
  (h : RowsAt w T g off sz rows) (hi : i + n = rows.length) (hsz : 0 < sz) :
  ∃ w', (Builtin.clear_ #[t] ty #[.slice (some ⟨g, off + i * sz, none⟩) n cap]).run P w = .ok (.tuple #[]) w' ∧ RowsAt w' T g off sz (rows.take i) ∧ w.grownBy w' (some g) := by
 obtain ⟨m, rfl⟩ | rfl : (∃ m, n = m + 1) ∨ n = 0 := by
  cases n with
  | zero => exact .inr rfl
  | succ m => exact .inl ⟨m, rfl⟩
 ·obtain ⟨hr1, cur, h2, h3, h4⟩ := h
  have hone : ∀ u ∈ (Builtin.zeroCells z.cells (m + 1)).toList, u.oneCell' = true := by
   intro u hu; simp only [Builtin.zeroCells, Array.toList_map, List.mem_map] at hu
   obtain ⟨k, _, rfl⟩ := hu; have hk : k % z.cells.size < z.cells.size := Nat.mod_lt _ (by omega)
   rw [getElem!_pos z.cells _ hk]; exact h1 _ (Array.getElem_mem_toList hk)
  have hzs : (Builtin.zeroCells z.cells (m + 1)).toList.length = (m + 1) * sz := by simp [Builtin.zeroCells, hz]
  generalize hZ : (Builtin.zeroCells z.cells (m + 1)).toList = Z at hone hzs
  have hfit : off + i * sz + (m + 1) * sz ≤ cur.size := by
   have : rows.length * sz = i * sz + (m + 1) * sz := by rw [← hi, Nat.add_mul]
   omega
  have hst := run_storeCells_at P g (off + i * sz) T Z 0 cur w h2 (by rw [hzs]; omega) hone
  simp only [Nat.add_zero] at hst
  refine ⟨w.setRow g (cur.toList.take (off + i * sz) ++ Z ++ cur.toList.drop (off + i * sz + Z.length)).toArray, by simp [Builtin.clear_, run_underlying ht, hv, hZ, hst], ⟨fun r hr => hr1 r (List.mem_of_mem_take hr), _, setRow_heap w g cur _ T _ h2, ?_, fun a b u hu => ?_⟩, ⟨rfl, rfl, rfl, by simp [World.setRow], fun k _ hk => setRow_other w g k _ fun e => hk (by rw [e])⟩⟩
  ·have h5 : (rows.take i).length ≤ rows.length := List.length_take_le' i rows
   have := Nat.mul_le_mul_right sz h5
   refine Nat.le_trans (show off + (rows.take i).length * sz ≤ cur.size by omega) (Nat.le_of_eq ?_)
   simp only [List.size_toArray, List.length_append, List.length_take, List.length_drop, Array.length_toList]; omega
  ·rw [List.getElem?_take] at hu
   split at hu
   ·rename_i hai
    have h6 := h4 a b u hu
    have hb : b < sz := by
     cases hr : rows[a]? with
     | none => rw [hr] at hu; simp at hu
     | some r =>
      rw [hr] at hu
      have := hr1 r (List.mem_of_getElem? hr)
      have := (List.getElem?_eq_some_iff.1 hu).1
      simp at this
      omega
    have hlt : off + a * sz + b < off + i * sz := by
     have := Nat.mul_le_mul_right sz (show a + 1 ≤ i by omega)
     rw [Nat.add_mul] at this; omega
    rw [List.getElem?_toArray, List.append_assoc, List.getElem?_append_left (by simp; omega), List.getElem?_take, if_pos hlt]
    simpa using h6
   ·simp at hu
 ·refine ⟨w, by simp [Builtin.clear_, run_underlying ht], ?_, gb_refl _ _⟩
  have := h.take i
  exact this
end Go.Proofs.YtddnnjblpgfjeaaGreatDoor
