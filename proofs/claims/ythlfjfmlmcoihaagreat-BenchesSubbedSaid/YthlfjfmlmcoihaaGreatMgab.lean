/- A drawn region inside a fence, walked in the order of its text: a condition on the world is kept up, and what yields its value in every world that meets it is taken first. -/
import Derived.Test.YthlfjfmlmcoihaaGreatMgaa
import Derived.Lib.Bytealg
import Derived.WalkKit
import Derived.Deep.RegionHeld3
import Derived.OrdersHeld
import Derived.OrdersIn
/- Plain facts on the order of strings. -/
namespace Go.Proofs.YthlfjfmlmcoihaaGreat
open Go

/-- Is a string before another one? -/
def ltS (a b : ByteArray) : Bool := Op.bytesLess a.toList b.toList
theorem u8_lt_irrefl (a : UInt8) : ¬ a < a := by simp
theorem bl_irrefl : ∀ l, Op.bytesLess l l = false
  | [] => rfl
  | a :: l => by simp [Op.bytesLess, bl_irrefl l]
theorem bl_total : ∀ a b, (Op.bytesLess a b || a == b) = !Op.bytesLess b a
  | [], [] => rfl
  | [], _ :: _ => rfl
  | _ :: _, [] => rfl
  | a :: x, b :: y => by
    have ih := bl_total x y
    simp only [Op.bytesLess]
    rcases Nat.lt_trichotomy a.toNat b.toNat with h | h | h
    · have h1 : a < b := UInt8.lt_iff_toNat_lt.2 h
      have h2 : ¬ b < a := fun h' => by have := UInt8.lt_iff_toNat_lt.1 h'; omega
      have h3 : ¬ b = a := fun e => by subst e; omega
      have h4 : (b == a) = false := by simp [h3]
      simp [h1, h2, h4]
    · have h1 : a = b := UInt8.toNat_inj.1 h
      subst h1
      have h2 : ¬ a < a := u8_lt_irrefl a
      simp [h2, ← ih]
    · have h1 : b < a := UInt8.lt_iff_toNat_lt.2 h
      have h2 : ¬ a < b := fun h' => by have := UInt8.lt_iff_toNat_lt.1 h'; omega
      have h3 : ¬ a = b := fun e => by subst e; omega
      have h4 : (a == b) = false := by simp [h3]
      simp [h1, h2, h4]
theorem bl_trans : ∀ a b c, Op.bytesLess a b = true → Op.bytesLess b c = true → Op.bytesLess a c = true
  | _, [], _, h, _ => by simp [Op.bytesLess] at h
  | _, _ :: _, [], _, h => by simp [Op.bytesLess] at h
  | [], b :: y, c :: z, _, _ => by simp [Op.bytesLess]
  | a :: x, b :: y, c :: z, h1, h2 => by
    simp only [Op.bytesLess, Bool.or_eq_true, decide_eq_true_eq, Bool.and_eq_true, beq_iff_eq] at h1 h2 ⊢
    rcases h1 with h1 | ⟨rfl, h1⟩
    · rcases h2 with h2 | ⟨rfl, h2⟩
      · left; rw [UInt8.lt_iff_toNat_lt] at *; omega
      · left; exact h1
    · rcases h2 with h2 | ⟨rfl, h2⟩
      · left; exact h2
      · right; exact ⟨rfl, bl_trans x y z h1 h2⟩
theorem cmp_bl : ∀ a b, Lib.compareBytes a b = if Op.bytesLess a b then -1 else if a == b then 0 else 1
  | [], [] => rfl
  | [], _ :: _ => rfl
  | _ :: _, [] => rfl
  | a :: x, b :: y => by
    unfold Lib.compareBytes
    rw [cmp_bl x y]
    simp only [Op.bytesLess]
    rcases Nat.lt_trichotomy a.toNat b.toNat with h | h | h
    · have h1 : a < b := UInt8.lt_iff_toNat_lt.2 h
      simp [h1]
    · have h1 : a = b := UInt8.toNat_inj.1 h
      subst h1
      simp [u8_lt_irrefl a]
    · have h1 : b < a := UInt8.lt_iff_toNat_lt.2 h
      have h2 : ¬ a < b := fun h' => by have := UInt8.lt_iff_toNat_lt.1 h'; omega
      have h3 : ¬ a = b := fun e => by subst e; omega
      simp [h1, h2, h3]
/-- strings.Compare. -/
def cmpS (a b : ByteArray) : Int := if ltS a b then -1 else if beqS a b then 0 else 1
theorem cmpS_eq (a b : ByteArray) : Lib.compareBytes a.data.toList b.data.toList = cmpS a b := by
  rw [cmp_bl, cmpS, ltS, beqS, ByteArray.toList_eq, ByteArray.toList_eq]
theorem beqS_iff {a b : ByteArray} : beqS a b = true ↔ a = b := by
  unfold beqS
  rw [beq_iff_eq, ByteArray.toList_eq, ByteArray.toList_eq]
  constructor
  · intro h
    cases a with | mk x => cases b with | mk y => exact congrArg ByteArray.mk (Array.toList_inj.1 h)
  · rintro rfl; rfl
theorem beqS_self (a : ByteArray) : beqS a a = true := beqS_iff.2 rfl
theorem leS_eq (a b : ByteArray) : (Op.bytesLess a.toList b.toList || a.toList == b.toList) = !ltS b a := bl_total _ _
theorem ltS_irrefl (a : ByteArray) : ltS a a = false := bl_irrefl _
theorem ltS_trans {a b c : ByteArray} (h1 : ltS a b = true) (h2 : ltS b c = true) : ltS a c = true := bl_trans _ _ _ h1 h2
theorem ltS_asymm {a b : ByteArray} (h : ltS a b = true) : ltS b a = false := by
  cases hh : ltS b a
  · rfl
  · have := ltS_trans h hh; rw [ltS_irrefl] at this; cases this
theorem ltS_ne {a b : ByteArray} (h : ltS a b = true) : beqS a b = false := by
  cases hh : beqS a b
  · rfl
  · have := beqS_iff.1 hh; subst this; rw [ltS_irrefl] at h; cases h
/-- What is not before and not one is behind. -/
theorem ltS_or {a b : ByteArray} (h1 : ltS a b = false) (h2 : beqS a b = false) : ltS b a = true := by
  have h := leS_eq a b
  have e1 : Op.bytesLess a.toList b.toList = false := h1
  have e2 : (a.toList == b.toList) = false := h2
  rw [e1, e2] at h
  simpa using h.symm
theorem cmpS_neg (a b : ByteArray) : decide (cmpS a b < 0) = ltS a b := by
  unfold cmpS
  cases ltS a b
  · cases beqS a b <;> rfl
  · rfl
theorem cmpS_zero (a b : ByteArray) : (cmpS a b == 0) = beqS a b := by
  unfold cmpS
  cases h : ltS a b
  · cases beqS a b <;> rfl
  · rw [ltS_ne h]; rfl
end Go.Proofs.YthlfjfmlmcoihaaGreat
/- Rows of structs that hold strings in a slice of their own (slots, scorers): what stays as the world goes on. -/
namespace Go.Proofs.YthlfjfmlmcoihaaGreat
open Go.RowKit

section
variable {α : Type} (row : α → Value → List Value) (pos : α → List ByteArray)
def nRows (xs : List α) (pvs : List Value) : List (List Value) := List.zipWith row xs pvs
/-- A slice of such structs. -/
def NRows (w : World) (T lo sz : Nat) (v : Value) (xs : List α) : Prop :=
  ∃ pvs : List Value, pvs.length = xs.length ∧ Rows w T lo sz v (nRows row xs pvs) ∧ ∀ (i : Nat) (x : Value) (a : α), pvs[i]? = some x → xs[i]? = some a → Strs w lo x (pos a)
/-- A slice of such structs that the call made itself. -/
def NOwn (w : World) (T base sz : Nat) (v : Value) (xs : List α) : Prop :=
  ∃ pvs : List Value, pvs.length = xs.length ∧ w.ownsRow base T sz v xs.length (nRows row xs pvs).flatten ∧ ∀ (i : Nat) (x : Value) (a : α), pvs[i]? = some x → xs[i]? = some a → Strs w base x (pos a)
end
theorem nRows_length {α : Type} {row : α → Value → List Value} {xs : List α} {pvs : List Value} (h : pvs.length = xs.length) : (nRows row xs pvs).length = xs.length := by
  unfold nRows; rw [List.length_zipWith, h]; exact Nat.min_self _
theorem nRows_each {α : Type} {row : α → Value → List Value} {sz : Nat} (hsz : ∀ a x, (row a x).length = sz) : ∀ (xs : List α) (pvs : List Value), ∀ r ∈ nRows row xs pvs, r.length = sz := by
  intro xs pvs r hr
  obtain ⟨i, hi⟩ := List.getElem?_of_mem hr
  unfold nRows at hi
  rw [List.getElem?_zipWith] at hi
  split at hi <;> simp at hi
  subst hi; exact hsz _ _
theorem nRows_get {α : Type} {row : α → Value → List Value} {xs : List α} {pvs : List Value} {i : Nat} {a : α} {x : Value} (h1 : xs[i]? = some a) (h2 : pvs[i]? = some x) : (nRows row xs pvs)[i]? = some (row a x) := by
  unfold nRows
  rw [List.getElem?_zipWith, h1, h2]
theorem nRows_snoc {α : Type} {row : α → Value → List Value} {xs : List α} {pvs : List Value} (h : pvs.length = xs.length) (a : α) (x : Value) : nRows row (xs ++ [a]) (pvs ++ [x]) = nRows row xs pvs ++ [row a x] := by
  unfold nRows
  rw [List.zipWith_append h.symm]
  rfl
theorem NOwn.rows {α : Type} {row : α → Value → List Value} {pos : α → List ByteArray} {w : World} {T base sz : Nat} {v : Value} {xs : List α} (h : NOwn row pos w T base sz v xs) (hsz : ∀ a x, (row a x).length = sz) (hn : xs.length ≤ 1000000) : NRows row pos w T base sz v xs := by
  obtain ⟨pvs, h1, h2, h3⟩ := h
  exact ⟨pvs, h1, Rows.of_owns (by rw [nRows_length h1]; exact h2) (by rw [nRows_length h1]; exact hn) (nRows_each hsz xs pvs), h3⟩
theorem NOwn.nil {α : Type} (row : α → Value → List Value) (pos : α → List ByteArray) (w : World) (T base sz : Nat) : NOwn row pos w T base sz (.slice none 0 0) [] := ⟨[], rfl, World.ownsRow_nil _ _ _ _, by simp⟩
theorem NOwn.below {α : Type} {row : α → Value → List Value} {pos : α → List ByteArray} {w w' : World} {T base sz : Nat} {v : Value} {xs : List α} (h : NOwn row pos w T base sz v xs) (hb : Below w.heap.size w w') : NOwn row pos w' T base sz v xs := by
  obtain ⟨pvs, a, b, c⟩ := h
  exact ⟨pvs, a, b.kept (gb_below hb none) (by cases hv : v.ownBlock <;> simp), fun i x p hx hp => (c i x p hx hp).below hb⟩
theorem NOwn.alloc {α : Type} {row : α → Value → List Value} {pos : α → List ByteArray} {w : World} {T base sz : Nat} {v : Value} {xs : List α} (h : NOwn row pos w T base sz v xs) (o : Obj) : NOwn row pos (w.alloc o) T base sz v xs := h.below (below_alloc w o)
theorem NOwn.mono {α : Type} {row : α → Value → List Value} {pos : α → List ByteArray} {w : World} {T base base' sz : Nat} {v : Value} {xs : List α} (h : NOwn row pos w T base sz v xs) (hb : base' ≤ base) : NOwn row pos w T base' sz v xs := by
  obtain ⟨pvs, a, b, c⟩ := h
  refine ⟨pvs, a, ⟨b.1, ?_⟩, fun i x p hx hp => (c i x p hx hp).mono hb⟩
  rcases b.2 with h | ⟨g, cap, cur, e, hg, rest⟩
  · exact .inl h
  · exact .inr ⟨g, cap, cur, e, Nat.le_trans hb hg, rest⟩
/-- It stays where an older block changes. -/
theorem NOwn.keep {α : Type} {row : α → Value → List Value} {pos : α → List ByteArray} {w w' : World} {T base sz B : Nat} {v : Value} {xs : List α} (h : NOwn row pos w T base sz v xs) (hg : w.grownBy w' (some B)) (hB : B < base) : NOwn row pos w' T base sz v xs := by
  obtain ⟨pvs, a, b, c⟩ := h
  exact ⟨pvs, a, b.kept hg (.inr fun e => by have := (own_block b B e).1; omega), fun i x p hx hp => (c i x p hx hp).other hg hB⟩
/-- One more, appended. -/
theorem NOwn.snoc {α : Type} {row : α → Value → List Value} {pos : α → List ByteArray} {w w' : World} {T base sz : Nat} {v v' x : Value} {xs : List α} {pvs : List Value} {a : α} (hl : pvs.length = xs.length) (hc : ∀ (i : Nat) (x : Value) (a : α), pvs[i]? = some x → xs[i]? = some a → Strs w base x (pos a))
    (hx : Strs w base x (pos a)) (hT : T ≠ 9) (hown : w.ownsRow base T sz v xs.length (nRows row xs pvs).flatten) (hown' : w'.ownsRow base T sz v' (xs.length + 1) ((nRows row xs pvs).flatten ++ row a x)) (hg : w.grownBy w' v.ownBlock) : NOwn row pos w' T base sz v' (xs ++ [a]) := by
  refine ⟨pvs ++ [x], by simp [hl], ?_, fun i y p hy hp => ?_⟩
  · rw [nRows_snoc hl, List.flatten_append, List.length_append]
    simpa using hown'
  · have key : Strs w base y (pos p) := by
      by_cases hi : i < xs.length
      · rw [List.getElem?_append_left (by omega)] at hy
        rw [List.getElem?_append_left hi] at hp
        exact hc i y p hy hp
      · have hi2 : i = xs.length := by have := (List.getElem?_eq_some_iff.1 hp).1; simp at this; omega
        subst hi2
        rw [List.getElem?_append_right (by omega), hl] at hy
        rw [List.getElem?_append_right (by omega)] at hp
        simp at hy hp
        subst hy hp
        exact hx
    exact key.row hg fun r hr => by
      obtain ⟨_, cur, h⟩ := own_block hown r hr
      exact ⟨cur, T, _, h, hT⟩
theorem NRows.below {α : Type} {row : α → Value → List Value} {pos : α → List ByteArray} {w w' : World} {T lo sz : Nat} {v : Value} {xs : List α} (h : NRows row pos w T lo sz v xs) (hb : Below w.heap.size w w') : NRows row pos w' T lo sz v xs := by
  obtain ⟨pvs, a, b, c⟩ := h
  exact ⟨pvs, a, b.below hb, fun i x p hx hp => (c i x p hx hp).below hb⟩
theorem NRows.other {α : Type} {row : α → Value → List Value} {pos : α → List ByteArray} {w w' : World} {T lo sz B : Nat} {v : Value} {xs : List α} (h : NRows row pos w T lo sz v xs) (hg : w.grownBy w' (some B)) (hB : B < lo) : NRows row pos w' T lo sz v xs := by
  obtain ⟨pvs, a, b, c⟩ := h
  exact ⟨pvs, a, b.other hg hB, fun i x p hx hp => (c i x p hx hp).other hg hB⟩
theorem NRows.mono {α : Type} {row : α → Value → List Value} {pos : α → List ByteArray} {w : World} {T lo lo' sz : Nat} {v : Value} {xs : List α} (h : NRows row pos w T lo sz v xs) (hl : lo' ≤ lo) : NRows row pos w T lo' sz v xs := by
  obtain ⟨pvs, a, b, c⟩ := h
  exact ⟨pvs, a, b.mono hl, fun i x p hx hp => (c i x p hx hp).mono hl⟩
/-- What stands in memory. -/
theorem NRows.at {α : Type} {row : α → Value → List Value} {pos : α → List ByteArray} {w : World} {T lo sz : Nat} {v : Value} {xs : List α} (h : NRows row pos w T lo sz v xs) :
    (v = .slice none 0 0 ∧ xs = []) ∨ ∃ g off cap, v = .slice (some ⟨g, off, none⟩) xs.length cap ∧ lo ≤ g ∧ g < w.heap.size ∧ xs.length ≤ 1000000 ∧
      ∀ (i : Nat) (a : α), xs[i]? = some a → ∃ x, (∀ (j : Nat) (u : Value), (row a x)[j]? = some u → w.cell? ⟨g, off + i * sz + j, none⟩ = some u) ∧ Strs w lo x (pos a) := by
  obtain ⟨pvs, hl, hr, hp⟩ := h
  have e := nRows_length (row := row) hl
  rcases rows_at hr with ⟨e1, e2⟩ | ⟨g, off, cap, e1, e2, e3, hc⟩
  · refine .inl ⟨e1, ?_⟩
    rw [e2] at e; exact List.eq_nil_of_length_eq_zero e.symm
  · refine .inr ⟨g, off, cap, by rw [e] at e1; exact e1, e2, e3, by have := hr.small; omega, fun i a ha => ?_⟩
    have hi : i < pvs.length := by have := (List.getElem?_eq_some_iff.1 ha).1; omega
    refine ⟨pvs[i], fun j u hu => hc i j u ?_, hp i _ a (List.getElem?_eq_getElem hi) ha⟩
    rw [nRows_get ha (List.getElem?_eq_getElem hi)]
    exact hu
theorem NRows.shape {α : Type} {row : α → Value → List Value} {pos : α → List ByteArray} {w : World} {T lo sz : Nat} {v : Value} {xs : List α} (h : NRows row pos w T lo sz v xs) : ∃ a c, v = .slice a xs.length c := by
  rcases h.at with ⟨rfl, rfl⟩ | ⟨g, off, cap, rfl, _⟩
  · exact ⟨none, 0, rfl⟩
  · exact ⟨_, _, rfl⟩
end Go.Proofs.YthlfjfmlmcoihaaGreat
/- More plain facts on worlds. -/
namespace Go.Proofs.YthlfjfmlmcoihaaGreat
open Go.RowKit

theorem RowsAt.heap {w : World} {T g off sz : Nat} {rows : List (List Value)} (h : RowsAt w T g off sz rows) : ∃ cur, w.heap[g]? = some (.cells cur T (0, 0)) := by
  obtain ⟨_, cur, h2, _⟩ := h; exact ⟨cur, h2⟩

/-- clear on a tail of a slice of rows: the block's cells ahead of it stay. -/
theorem run_clear_rows {P : Program} {w : World} {T t ty g off sz i n cap : Nat} {z : Value} {rows : List (List Value)} (ht : P.underlying t = some (.slice T)) (hv : ∀ w, (zeroValue T).run P w = .ok z w) (hz : z.cells.size = sz) (h1 : ∀ u ∈ z.cells.toList, u.oneCell' = true)
    (h : RowsAt w T g off sz rows) (hi : i + n = rows.length) (hsz : 0 < sz) :
    ∃ w', (Builtin.clear_ #[t] ty #[.slice (some ⟨g, off + i * sz, none⟩) n cap]).run P w = .ok (.tuple #[]) w' ∧ RowsAt w' T g off sz (rows.take i) ∧ w.grownBy w' (some g) := by
  obtain ⟨m, rfl⟩ | rfl : (∃ m, n = m + 1) ∨ n = 0 := by
    cases n with
    | zero => exact .inr rfl
    | succ m => exact .inl ⟨m, rfl⟩
  · obtain ⟨hr1, cur, h2, h3, h4⟩ := h
    have hone : ∀ u ∈ (Builtin.zeroCells z.cells (m + 1)).toList, u.oneCell' = true := by
      intro u hu
      simp only [Builtin.zeroCells, Array.toList_map, List.mem_map] at hu
      obtain ⟨k, _, rfl⟩ := hu
      have hk : k % z.cells.size < z.cells.size := Nat.mod_lt _ (by omega)
      rw [getElem!_pos z.cells _ hk]
      exact h1 _ (Array.getElem_mem_toList hk)
    have hzs : (Builtin.zeroCells z.cells (m + 1)).toList.length = (m + 1) * sz := by simp [Builtin.zeroCells, hz]
    generalize hZ : (Builtin.zeroCells z.cells (m + 1)).toList = Z at hone hzs
    have hfit : off + i * sz + (m + 1) * sz ≤ cur.size := by
      have : rows.length * sz = i * sz + (m + 1) * sz := by rw [← hi, Nat.add_mul]
      omega
    have hst := run_storeCells_at P g (off + i * sz) T Z 0 cur w h2 (by rw [hzs]; omega) hone
    simp only [Nat.add_zero] at hst
    refine ⟨w.setRow g (cur.toList.take (off + i * sz) ++ Z ++ cur.toList.drop (off + i * sz + Z.length)).toArray, by simp [Builtin.clear_, run_underlying ht, hv, hZ, hst], ⟨fun r hr => hr1 r (List.mem_of_mem_take hr), _, setRow_heap w g cur _ T _ h2, ?_, fun a b u hu => ?_⟩, ⟨rfl, rfl, rfl, by simp [World.setRow], fun k _ hk => setRow_other w g k _ fun e => hk (by rw [e])⟩⟩
    · have h5 : (rows.take i).length ≤ rows.length := List.length_take_le' i rows
      have := Nat.mul_le_mul_right sz h5
      refine Nat.le_trans (show off + (rows.take i).length * sz ≤ cur.size by omega) (Nat.le_of_eq ?_)
      simp only [List.size_toArray, List.length_append, List.length_take, List.length_drop, Array.length_toList]
      omega
    · rw [List.getElem?_take] at hu
      split at hu
      · rename_i hai
        have h6 := h4 a b u hu
        have hb : b < sz := by
          cases hr : rows[a]? with
          | none => rw [hr] at hu; simp at hu
          | some r =>
            rw [hr] at hu
            have := hr1 r (List.mem_of_getElem? hr)
            have := (List.getElem?_eq_some_iff.1 hu).1
            simp at this
            omega
        have hlt : off + a * sz + b < off + i * sz := by
          have := Nat.mul_le_mul_right sz (show a + 1 ≤ i by omega)
          rw [Nat.add_mul] at this; omega
        rw [List.getElem?_toArray, List.append_assoc, List.getElem?_append_left (by simp; omega), List.getElem?_take, if_pos hlt]
        simpa using h6
      · simp at hu
  · refine ⟨w, by simp [Builtin.clear_, run_underlying ht], ?_, gb_refl _ _⟩
    have := h.take i
    exact this
/-- A whole row of three is written. -/
theorem rows_set3 {w : World} {T g off i : Nat} {rows : List (List Value)} {row : List Value} (h : RowsAt w T g off 3 rows) (hi : rows[i]? = some row) (a b c : Value) :
    RowsAt (((w.setCell ⟨g, off + i * 3, none⟩ a).setCell ⟨g, off + i * 3 + 1, none⟩ b).setCell ⟨g, off + i * 3 + 2, none⟩ c) T g off 3 (rows.set i [a, b, c]) := by
  have hlt : i < rows.length := (List.getElem?_eq_some_iff.1 hi).1
  have hl : row.length = 3 := h.1 row (List.mem_of_getElem? hi)
  match row, hl with
  | [x, y, z], _ =>
    have r0 := h.set hi (show 0 < 3 by omega) a
    have r1 := r0.set (List.getElem?_set_self hlt) (show 1 < 3 by omega) b
    rw [List.set_set] at r1
    have r2 := r1.set (List.getElem?_set_self hlt) (show 2 < 3 by omega) c
    rw [List.set_set] at r2
    exact r2
end Go.Proofs.YthlfjfmlmcoihaaGreat
/- A drawn region walked in the order of its text: the operation's slot is given, so that the frame stays written out. -/
namespace Go.Proofs.YthlfjfmlmcoihaaGreat
open Go
section
variable {P : Program} {ops : Array Oper} {Q : Exit → Act → World → Prop} {md : Region.Mode} {S : World → Prop}
/-- The beginning, the operations under a name of their own. -/
theorem region_start {id : Nat} {a : Act} {w : World} (n : Nat) (S : World → Prop) (hm : P.follows .mixedOrders = true) (hn : ops.size = n) (hS : S w.drew) (h : S w.drew → wpAnyH P .any ops Q S n (Array.replicate n false) a w.drew) : (Code.region id ops true).wp P Q a w :=
  wp_region_held_drew hm hS (by rw [hn]; exact h)
/-- Number i yields v in every world that meets S: it is taken. -/
theorem take_at (i d : Nat) {oi : Oper} {v : Value} {fuel : Nat} {listed : Array Bool} {l : List Value} {df : List Deferred} {w : World} (hi : ops[i]? = some oi) (hd : oi.dst = some d)
    (hs : Region.noSelect ops = true) (hf : Region.free md ops listed i = true) (hr : (Region.ready md ops listed).contains i = true)
    (hQ : ∀ c a w, Q (.panic c) (a.put oi.dst v) w → Q (.panic c) a w) (hw : Region.wanted oi (yielded ops l.toArray) = true) (hy : ∀ w, S w → (execOp (Act.eval ⟨l.toArray, df⟩) oi).run P w = .ok (.value v) w) (hS : S w)
    (h : wpAnyH P md ops Q S fuel (listed.setIfInBounds i true) ⟨(l.set d v).toArray, df⟩ w) : wpAnyH P md ops Q S (fuel + 1) listed ⟨l.toArray, df⟩ w := by
  refine wpAnyH_take hi hs hf hr hQ (Or.inl ⟨hw, hy⟩) hS ?_
  rw [hd]
  simpa [Act.put] using h
/-- Number i does not run. -/
theorem skip_at (i d : Nat) {oi : Oper} {fuel : Nat} {listed : Array Bool} {l : List Value} {df : List Deferred} {w : World} (hi : ops[i]? = some oi) (hd : oi.dst = some d)
    (hs : Region.noSelect ops = true) (hf : Region.free md ops listed i = true) (hr : (Region.ready md ops listed).contains i = true)
    (hQ : ∀ c a w, Q (.panic c) (a.put oi.dst undef) w → Q (.panic c) a w) (hw : Region.wanted oi (yielded ops l.toArray) = false) (hS : S w)
    (h : wpAnyH P md ops Q S fuel (listed.setIfInBounds i true) ⟨(l.set d undef).toArray, df⟩ w) : wpAnyH P md ops Q S (fuel + 1) listed ⟨l.toArray, df⟩ w := by
  refine wpAnyH_take hi hs hf hr hQ (Or.inr ⟨hw, rfl⟩) hS ?_
  rw [hd]
  simpa [Act.put] using h
/-- Number i alone may come up, and runs. -/
theorem run_at (i : Nat) {oi : Oper} {fuel : Nat} {listed : Array Bool} {a : Act} {w : World} (hi : ops[i]? = some oi) (hr : Region.ready md ops listed = [i]) (hw : Region.wanted oi (yielded ops a.tmps) = true)
    (h : ∀ K' : Act → World → Prop, Shut (∀ a w, S w → (S w → wpAnyH P md ops Q S fuel (listed.setIfInBounds i true) a w) → K' a w) → Oper.wp P oi a w K' Q) : wpAnyH P md ops Q S (fuel + 1) listed a w :=
  wpAnyH_ready hr (by simp) (AllReadyH.cons hi (fun K hK => by rw [if_pos hw]; exact h K hK) AllReadyH.nil)
/-- Two may come up: either is run first. -/
theorem run_at2 (i j : Nat) {oi oj : Oper} {fuel : Nat} {listed : Array Bool} {a : Act} {w : World} (hi : ops[i]? = some oi) (hj : ops[j]? = some oj) (hr : Region.ready md ops listed = [i, j]) (hwi : Region.wanted oi (yielded ops a.tmps) = true) (hwj : Region.wanted oj (yielded ops a.tmps) = true)
    (h1 : ∀ K' : Act → World → Prop, Shut (∀ a w, S w → (S w → wpAnyH P md ops Q S fuel (listed.setIfInBounds i true) a w) → K' a w) → Oper.wp P oi a w K' Q)
    (h2 : ∀ K' : Act → World → Prop, Shut (∀ a w, S w → (S w → wpAnyH P md ops Q S fuel (listed.setIfInBounds j true) a w) → K' a w) → Oper.wp P oj a w K' Q) : wpAnyH P md ops Q S (fuel + 1) listed a w :=
  wpAnyH_ready hr (by simp) (AllReadyH.cons hi (fun K hK => by rw [if_pos hwi]; exact h1 K hK) (AllReadyH.cons hj (fun K hK => by rw [if_pos hwj]; exact h2 K hK) AllReadyH.nil))
/-- The same, the list of those that have come up written out. -/
theorem take_to (i d : Nat) (l' : Array Bool) {oi : Oper} {v : Value} {fuel : Nat} {listed : Array Bool} {l : List Value} {df : List Deferred} {w : World} (hi : ops[i]? = some oi) (hd : oi.dst = some d)
    (hs : Region.noSelect ops = true) (hf : (Region.free md ops listed i && (Region.ready md ops listed).contains i) = true) (hl : listed.setIfInBounds i true = l')
    (hQ : ∀ c a w, Q (.panic c) (a.put oi.dst v) w → Q (.panic c) a w) (hw : Region.wanted oi (yielded ops l.toArray) = true) (hy : ∀ w, S w → (execOp (Act.eval ⟨l.toArray, df⟩) oi).run P w = .ok (.value v) w) (hS : S w)
    (h : wpAnyH P md ops Q S fuel l' ⟨(l.set d v).toArray, df⟩ w) : wpAnyH P md ops Q S (fuel + 1) listed ⟨l.toArray, df⟩ w := by
  subst hl
  rw [Bool.and_eq_true] at hf
  exact take_at i d hi hd hs hf.1 hf.2 hQ hw hy hS h
theorem skip_to (i d : Nat) (l' : Array Bool) {oi : Oper} {fuel : Nat} {listed : Array Bool} {l : List Value} {df : List Deferred} {w : World} (hi : ops[i]? = some oi) (hd : oi.dst = some d)
    (hs : Region.noSelect ops = true) (hf : (Region.free md ops listed i && (Region.ready md ops listed).contains i) = true) (hl : listed.setIfInBounds i true = l')
    (hQ : ∀ c a w, Q (.panic c) (a.put oi.dst undef) w → Q (.panic c) a w) (hw : Region.wanted oi (yielded ops l.toArray) = false) (hS : S w)
    (h : wpAnyH P md ops Q S fuel l' ⟨(l.set d undef).toArray, df⟩ w) : wpAnyH P md ops Q S (fuel + 1) listed ⟨l.toArray, df⟩ w := by
  subst hl
  rw [Bool.and_eq_true] at hf
  exact skip_at i d hi hd hs hf.1 hf.2 hQ hw hS h
theorem run_to (i : Nat) (l' : Array Bool) {oi : Oper} {fuel : Nat} {listed : Array Bool} {a : Act} {w : World} (hi : ops[i]? = some oi) (hr : Region.ready md ops listed = [i]) (hl : listed.setIfInBounds i true = l') (hw : Region.wanted oi (yielded ops a.tmps) = true)
    (h : ∀ K' : Act → World → Prop, Shut (∀ a w, S w → (S w → wpAnyH P md ops Q S fuel l' a w) → K' a w) → Oper.wp P oi a w K' Q) : wpAnyH P md ops Q S (fuel + 1) listed a w := by
  subst hl
  exact run_at i hi hr hw h
end
end Go.Proofs.YthlfjfmlmcoihaaGreat
/- A drawn region walked in the order of its text, where a condition on the world is kept up behind those operations alone that may come ahead of one who reads by it. -/
namespace Go.Proofs.YthlfjfmlmcoihaaGreat
open Go
section
variable {P : Program} {ops : Array Oper} {Q : Exit → Act → World → Prop} {md : Region.Mode} {S T : World → Prop} {c : Nat → Bool}
/-- Whatever comes up next; behind number i, if c says so of it, S holds. -/
def heldC (P : Program) (md : Region.Mode) (ops : Array Oper) (Q : Exit → Act → World → Prop) (S : World → Prop) (c : Nat → Bool) : Nat → Array Bool → Act → World → Prop
  | 0, listed, a, w => Region.ready md ops listed = [] ∧ Q .normal a w
  | k + 1, listed, a, w => (Region.ready md ops listed = [] → Q .normal a w) ∧ ∀ i ∈ Region.ready md ops listed, wpOp P ops Q i (fun b W => (c i = true → S W) ∧ heldC P md ops Q S c k (listed.setIfInBounds i true) b W) a w
theorem heldC.any : ∀ (k : Nat) (listed : Array Bool) (a : Act) (w : World), heldC P md ops Q S c k listed a w → wpAny P md ops Q k listed a w
  | 0, _, _, _, h => h
  | k + 1, _, _, _, h => ⟨h.1, fun i hi => wpOp_mono (fun b W hb => heldC.any k _ b W hb.2) (h.2 i hi)⟩
/-- Does number j wait for number i, through others too? -/
def waitsB (md : Region.Mode) (ops : Array Oper) (i : Nat) : Nat → Nat → Bool
  | 0, _ => false
  | k + 1, j => match ops[j]? with
    | some o => o.after.any fun e => Region.binds md e && (e.on == i || waitsB md ops i k e.on)
    | none => false
/-- Have all come up for whom those wait who have? -/
def Closed (md : Region.Mode) (ops : Array Oper) (listed : Array Bool) : Prop := ∀ (j : Nat) (o : Oper), listed.getD j false = true → ops[j]? = some o → ∀ e ∈ o.after, Region.binds md e = true → listed.getD e.on false = true
def closedB (md : Region.Mode) (ops : Array Oper) (listed : Array Bool) : Bool := (List.range ops.size).all fun j => !listed.getD j false || (match ops[j]? with | some o => o.after.all fun e => !Region.binds md e || listed.getD e.on false | none => true)
theorem closed_of {listed : Array Bool} (h : closedB md ops listed = true) : Closed md ops listed := by
  intro j o hl ho e he hb
  have h1 := (List.all_eq_true.1 h) j (List.mem_range.2 (Array.getElem?_eq_some_iff.1 ho).1)
  simp only [ho, hl, Bool.not_true, Bool.false_or, Array.all_eq_true_iff_forall_mem] at h1
  have h2 := h1 e he
  simpa [hb] using h2
theorem waits_none {listed : Array Bool} (hc : Closed md ops listed) {i : Nat} (hi : listed.getD i false = false) : ∀ k j, listed.getD j false = true → waitsB md ops i k j = false
  | 0, _, _ => rfl
  | k + 1, j, hj => by
    unfold waitsB
    cases ho : ops[j]? with
    | none => rfl
    | some o =>
      dsimp only
      rw [Array.any_eq_false]
      intro q hq
      cases hb : Region.binds md o.after[q]
      · simp
      · have hl := hc j o hj ho _ (Array.getElem_mem hq) hb
        have hne : ((o.after[q]).on == i) = false := by
          rw [beq_eq_false_iff_ne]
          rintro rfl
          rw [hi] at hl; cases hl
        simp [hne, waits_none hc hi k _ hl]
theorem waits_ready {listed : Array Bool} (hc : Closed md ops listed) {i j : Nat} (hi : listed.getD i false = false) (hr : j ∈ Region.ready md ops listed) : ∀ k, waitsB md ops i k j = false := by
  obtain ⟨_, o, ho, hall⟩ := mem_ready.1 hr
  intro k
  cases k with
  | zero => rfl
  | succ k =>
    unfold waitsB
    rw [ho]
    dsimp only
    rw [Array.any_eq_false]
    intro q hq
    cases hb : Region.binds md o.after[q]
    · simp
    · have hl := hall _ (Array.getElem_mem hq) hb
      have hne : ((o.after[q]).on == i) = false := by
        rw [beq_eq_false_iff_ne]
        rintro rfl
        rw [hi] at hl; cases hl
      simp [hne, waits_none hc hi k _ hl]
theorem closed_next {listed : Array Bool} (hc : Closed md ops listed) {j : Nat} (hr : j ∈ Region.ready md ops listed) : Closed md ops (listed.setIfInBounds j true) := by
  obtain ⟨_, oj, hoj, hall⟩ := mem_ready.1 hr
  have up : ∀ m, listed.getD m false = true → (listed.setIfInBounds j true).getD m false = true := fun m hm => by
    rcases Nat.decEq j m with hjm | rfl
    · rw [getD_set_ne false hjm]; exact hm
    · rw [Array.getD_eq_getD_getElem?, Array.getElem?_setIfInBounds]
      rw [Array.getD_eq_getD_getElem?] at hm
      by_cases hs : j < listed.size
      · simp [hs]
      · rw [Array.getElem?_eq_none (by omega)] at hm; simp at hm
  intro m o hm ho e he hb
  rcases Nat.decEq j m with hjm | rfl
  · rw [getD_set_ne false hjm] at hm
    exact up _ (hc m o hm ho e he hb)
  · rw [hoj] at ho
    cases ho
    exact up _ (hall e he hb)
/-- Does c say so of all who have not come up and don't wait for number i? -/
def coverB (md : Region.Mode) (ops : Array Oper) (c : Nat → Bool) (listed : Array Bool) (i : Nat) : Bool :=
  closedB md ops listed && (List.range ops.size).all fun j => j == i || c j || listed.getD j true || waitsB md ops i ops.size j
theorem coverB_spec {i j : Nat} {oj : Oper} {listed : Array Bool} (h : coverB md ops c listed i = true) (hj : ops[j]? = some oj) (hne : j ≠ i) (hl : listed.getD j true = false) (hd : ∀ k, waitsB md ops i k j = false) : c j = true := by
  unfold coverB at h
  rw [Bool.and_eq_true] at h
  have h1 := (List.all_eq_true.1 h.2) j (List.mem_range.2 (Array.getElem?_eq_some_iff.1 hj).1)
  simp only [Bool.or_eq_true, beq_iff_eq, hd, Bool.false_eq_true, or_false, hl] at h1
  rcases h1 with h1 | h1
  · exact absurd h1 hne
  · exact h1
theorem coverB_closed {i : Nat} {listed : Array Bool} (h : coverB md ops c listed i = true) : Closed md ops listed := by
  unfold coverB at h
  rw [Bool.and_eq_true] at h
  exact closed_of h.1
theorem unlisted {listed : Array Bool} {i : Nat} (hr : i ∈ Region.ready md ops listed) : listed.getD i false = false := by
  have h := (mem_ready.1 hr).1
  rw [Array.getD_eq_getD_getElem?] at h ⊢
  cases hx : listed[i]? with
  | none => rw [hx] at h; simp at h
  | some b => rw [hx] at h; simpa using h
theorem heldC.first {i : Nat} {oi : Oper} {v : Value} (hi : ops[i]? = some oi) (hsel : ∀ (j : Nat) (o : Oper) cs b, ops[j]? = some o → o.op ≠ .select cs b) (hQ : ∀ c a w, Q (.panic c) (a.put oi.dst v) w → Q (.panic c) a w) :
    ∀ (k : Nat) (listed : Array Bool) (a : Act) (w : World),
      (∀ j oj, ops[j]? = some oj → j ≠ i → listed.getD j true = false → (∀ e ∈ oj.after, Region.binds md e = true → e.on ≠ i) → oi.apart ops oj = true) →
      ((∀ W, T W) ∨ Closed md ops listed ∧ ∀ (j : Nat) (oj : Oper), ops[j]? = some oj → j ≠ i → listed.getD j true = false → (∀ k, waitsB md ops i k j = false) → ∀ W, (c j = true → S W) → T W) →
      i ∈ Region.ready md ops listed → YieldsIf P ops T oi v a → T w → (∀ W, T W → c i = true → S W) → heldC P md ops Q S c k (listed.setIfInBounds i true) (a.put oi.dst v) w → heldC P md ops Q S c (k + 1) listed a w
  | 0, listed, a, w, _, _, hr, hy, hT, hS, H => by
    refine ⟨fun h => absurd (h ▸ hr) (by simp), fun j hj => ?_⟩
    rcases Nat.decEq j i with hne | rfl
    · have := ready_mono hj hne
      rw [H.1] at this
      cases this
    · exact hy.wpOp hi hT ⟨hS w hT, H⟩
  | k + 1, listed, a, w, hfree, hk, hr, hy, hT, hS, H => by
    refine ⟨fun h => absurd (h ▸ hr) (by simp), fun j hj => ?_⟩
    rcases Nat.decEq j i with hne | rfl
    · obtain ⟨hun, oj, hoj, hall⟩ := mem_ready.1 hj
      have hdep : ∀ e ∈ oj.after, Region.binds md e = true → e.on ≠ i := fun e he hb heq => by
        have g1 := hall e he hb
        have g0 := (mem_ready.1 hr).1
        rw [heq] at g1
        rcases Nat.lt_or_ge i listed.size with hl | hl
        · simp [hl] at g0 g1; rw [g0] at g1; cases g1
        · simp [Array.getElem?_eq_none hl] at g1
      have h2 := wpOp_putIf hoj (hfree j oj hoj hne hun hdep) (fun cs b => hsel i oi cs b hi) (fun cs b => hsel j oj cs b hoj) hQ hy (H.2 j (ready_mono hj hne))
      have hback : ∀ m, (listed.setIfInBounds j true).getD m true = false → listed.getD m true = false := fun m hmun => by
        rcases Nat.decEq j m with hjm | rfl
        · rw [getD_set_ne true hjm] at hmun; exact hmun
        · exact hun
      refine wpOp_mono (fun b W ⟨g1, g2, g3⟩ => ⟨g2, heldC.first hi hsel hQ k _ b W (fun m om hm hmi hmun hmd => hfree m om hm hmi (hback m hmun) hmd) (hk.imp id fun h => ⟨closed_next h.1 hj, fun m om hm hmi hmun hmd => h.2 m om hm hmi (hback m hmun) hmd⟩) (ready_mono hr (Ne.symm hne)) g1 (hk.elim (fun h => h W) fun h => h.2 j oj hoj hne hun (waits_ready h.1 (unlisted hr) hj) W g2) hS (by rw [Array.setIfInBounds_comm _ _ hne]; exact g3)⟩) h2
    · exact hy.wpOp hi hT ⟨hS w hT, H⟩
theorem region_heldC {id : Nat} {a : Act} {w : World} (S : World → Prop) (c : Nat → Bool) (hm : P.follows .mixedOrders = true) (h : heldC P .any ops Q S c ops.size (Array.replicate ops.size false) a w.drew) : (Code.region id ops true).wp P Q a w :=
  wp_region_any hm (heldC.any _ _ _ _ h)
theorem regionC_start {id : Nat} {a : Act} {w : World} (k : Nat) (S : World → Prop) (c : Nat → Bool) (hm : P.follows .mixedOrders = true) (hk : ops.size = k) (h : heldC P .any ops Q S c k (Array.replicate k false) a w.drew) : (Code.region id ops true).wp P Q a w :=
  region_heldC S c hm (by rw [hk]; exact h)
theorem doneC {listed : Array Bool} {a : Act} {w : World} (hr : Region.ready md ops listed = []) (h : Q .normal a w) : ∀ k, heldC P md ops Q S c k listed a w
  | 0 => ⟨hr, h⟩
  | _ + 1 => ⟨fun _ => h, by rw [hr]; simp⟩
/-- Number i yields v in every world that meets S: it is taken. -/
theorem loadC (i d : Nat) {oi : Oper} {v : Value} {k : Nat} {listed : Array Bool} {l : List Value} {df : List Deferred} {w : World} (hi : ops[i]? = some oi) (hd : oi.dst = some d)
    (hs : Region.noSelect ops = true) (hf : Region.free md ops listed i = true) (hr : (Region.ready md ops listed).contains i = true) (hc : coverB md ops c listed i = true)
    (hQ : ∀ c a w, Q (.panic c) (a.put oi.dst v) w → Q (.panic c) a w) (hw : Region.wanted oi (yielded ops l.toArray) = true) (hy : ∀ w, S w → (execOp (Act.eval ⟨l.toArray, df⟩) oi).run P w = .ok (.value v) w) (hS : S w)
    (h : heldC P md ops Q S c k (listed.setIfInBounds i true) ⟨(l.set d v).toArray, df⟩ w) : heldC P md ops Q S c (k + 1) listed ⟨l.toArray, df⟩ w := by
  refine heldC.first (T := S) hi (Region.noSelect_spec hs) hQ k listed _ w (Region.free_spec hi hf) (.inr ⟨coverB_closed hc, fun j oj hj hne hl hdep W hW => hW (coverB_spec hc hj hne hl hdep)⟩) (by simpa using hr) (Or.inl ⟨hw, hy⟩) hS (fun _ h _ => h) ?_
  rw [hd]
  simpa [Act.put] using h
/-- Number i yields v in every world, and c does not speak of it. -/
theorem takeC (i d : Nat) {oi : Oper} {v : Value} {k : Nat} {listed : Array Bool} {l : List Value} {df : List Deferred} {w : World} (hi : ops[i]? = some oi) (hd : oi.dst = some d)
    (hs : Region.noSelect ops = true) (hf : Region.free md ops listed i = true) (hr : (Region.ready md ops listed).contains i = true) (hc : c i = false)
    (hQ : ∀ c a w, Q (.panic c) (a.put oi.dst v) w → Q (.panic c) a w) (hw : Region.wanted oi (yielded ops l.toArray) = true) (hy : ∀ w, (execOp (Act.eval ⟨l.toArray, df⟩) oi).run P w = .ok (.value v) w)
    (h : heldC P md ops Q S c k (listed.setIfInBounds i true) ⟨(l.set d v).toArray, df⟩ w) : heldC P md ops Q S c (k + 1) listed ⟨l.toArray, df⟩ w := by
  refine heldC.first (T := fun _ => True) hi (Region.noSelect_spec hs) hQ k listed _ w (Region.free_spec hi hf) (.inl fun _ => trivial) (by simpa using hr) (Or.inl ⟨hw, fun w _ => hy w⟩) trivial (fun _ _ h => by rw [hc] at h; cases h) ?_
  rw [hd]
  simpa [Act.put] using h
/-- Those that may come up next. -/
theorem readyC {rs : List Nat} {k : Nat} {listed : Array Bool} {a : Act} {w : World} (hr : Region.ready md ops listed = rs) (hne : rs ≠ [])
    (h : ∀ i ∈ rs, wpOp P ops Q i (fun b W => (c i = true → S W) ∧ heldC P md ops Q S c k (listed.setIfInBounds i true) b W) a w) : heldC P md ops Q S c (k + 1) listed a w :=
  ⟨fun h0 => absurd (hr ▸ h0) hne, hr ▸ h⟩
/-- Number i comes up, and runs. -/
theorem runC {i : Nat} {oi : Oper} {k : Nat} {listed : Array Bool} {a : Act} {w : World} (hi : ops[i]? = some oi) (hw : Region.wanted oi (yielded ops a.tmps) = true)
    (h : ∀ K' : Act → World → Prop, Shut (∀ a w, (c i = true → S w) → heldC P md ops Q S c k (listed.setIfInBounds i true) a w → K' a w) → Oper.wp P oi a w K' Q) : wpOp P ops Q i (fun b W => (c i = true → S W) ∧ heldC P md ops Q S c k (listed.setIfInBounds i true) b W) a w := by
  refine wpOp_step hi fun K' hK => ?_
  rw [if_pos hw]
  exact h K' fun a w hS hA => hK a w ⟨hS, hA⟩
/-- The same, the list of those that have come up spelt anew. -/
theorem sameC {k : Nat} {l l' : Array Bool} {a : Act} {w : World} (hl : l = l') (h : heldC P md ops Q S c k l' a w) : heldC P md ops Q S c k l a w := hl ▸ h
theorem each_nil {p : Nat → Prop} : ∀ i ∈ ([] : List Nat), p i := fun _ h => by cases h
theorem each_cons {p : Nat → Prop} {i : Nat} {l : List Nat} (h : p i) (t : ∀ j ∈ l, p j) : ∀ j ∈ i :: l, p j := fun j hj => by
  rcases List.mem_cons.1 hj with rfl | hj
  · exact h
  · exact t j hj
end
/-- What is shown once serves wherever it is met again. -/
theorem share7 {A1 A2 A3 A4 A5 A6 A7 : Sort _} {C G : A1 → A2 → A3 → A4 → A5 → A6 → A7 → Prop} {R : Prop} (main : (∀ x1 x2 x3 x4 x5 x6 x7, C x1 x2 x3 x4 x5 x6 x7 → G x1 x2 x3 x4 x5 x6 x7) → R) (tail : ∀ x1 x2 x3 x4 x5 x6 x7, C x1 x2 x3 x4 x5 x6 x7 → G x1 x2 x3 x4 x5 x6 x7) : R := main tail
end Go.Proofs.YthlfjfmlmcoihaaGreat
namespace Go.Proofs.YthlfjfmlmcoihaaGreat
open Go
section
variable {F : Fence} {n : Nat} {P : Program} {ops : Array Oper} {Q : Exit → Act → World → Prop} {md : Region.Mode} {S T : World → Prop} {c : Nat → Bool}
/-- In every world that meets S the operation leaves v and does nothing else, and it calls nobody. -/
def GivesIn (P : Program) (ops : Array Oper) (S : World → Prop) (o : Oper) (v : Value) (a : Act) : Prop := YieldsIf P ops S o v a ∧ ∀ w, o.about P w a.eval = none
theorem GivesIn.wpOp {i : Nat} {o : Oper} {v : Value} {a : Act} (hro : F.round = none) (hi : ops[i]? = some o) (hy : GivesIn P ops S o v a) {K : Act → World → Prop} {w : World} (hS : S w) (h : K (a.put o.dst v) w) : wpOpIn F n P ops Q i K a w := by
  unfold wpOpIn
  simp only [hi]
  have hab : ∀ f, o.about P w a.eval = some f → F.fn f := fun f hf => by rw [hy.2 w] at hf; cases hf
  obtain ⟨hw, hv⟩ | ⟨hw, rfl⟩ := hy.1
  · simp only [hw, if_true, Oper.wpIn, hro, Oper.semAt_none, hv w hS, Oper.uponIn]
    exact ⟨hab, h⟩
  · simp only [hw, Bool.false_eq_true, if_false]
    exact ⟨hab, h⟩
theorem GivesIn.same {o : Oper} {v : Value} {a b : Act} (hy : GivesIn P ops S o v a) (he : execOp b.eval o = execOp a.eval o) (hw : Region.wanted o (yielded ops b.tmps) = Region.wanted o (yielded ops a.tmps)) (hb : ∀ w, o.about P w b.eval = o.about P w a.eval) : GivesIn P ops S o v b :=
  ⟨hy.1.of_same he hw, fun w => (hb w).trans (hy.2 w)⟩
/-- An operation apart from it does not mind whether it has come up. -/
theorem GivesIn.past {j : Nat} {oi oj : Oper} {v : Value} {a : Act} {w : World} {K : Act → World → Prop} (hro : F.round = none) (hj : ops[j]? = some oj) (hap : oi.apart ops oj = true) (hsi : ∀ cs b, oi.op ≠ .select cs b) (hsj : ∀ cs b, oj.op ≠ .select cs b)
    (hQ : ∀ c a w, Q (.panic c) (a.put oi.dst v) w → Q (.panic c) a w) (hy : GivesIn P ops S oi v a) (h : wpOpIn F n P ops Q j K (a.put oi.dst v) w) :
    wpOpIn F n P ops Q j (fun b W => GivesIn P ops S oi v b ∧ K (b.put oi.dst v) W) a w := by
  obtain ⟨q1, q2, q3⟩ := Oper.apart_spec hap
  have stay : ∀ (b : Act), GivesIn P ops S oi v b → ∀ u, GivesIn P ops S oi v (b.put oj.dst u) := fun b hb u =>
    hb.same (execOp_put oi hsi b oj.dst u q3) (wanted_put oi b oj.dst u q3) fun w => about_put oi w b oj.dst u q3
  have swap : ∀ (b : Act) u, (b.put oi.dst v).put oj.dst u = (b.put oj.dst u).put oi.dst v := fun b u => (Act.put_comm b v u q2)
  unfold wpOpIn at h ⊢
  simp only [hj, wanted_put oj a oi.dst v q1, about_put oj w a oi.dst v q1] at h ⊢
  by_cases hw : Region.wanted oj (yielded ops a.tmps) = true
  · rw [if_pos hw] at h ⊢
    unfold Oper.wpIn at h ⊢
    rw [about_put oj w a oi.dst v q1] at h
    obtain ⟨h0, h⟩ := h
    rw [hro, Oper.semAt_none, execOp_put oj hsj a oi.dst v q1] at h
    rw [hro, Oper.semAt_none]
    refine ⟨h0, ?_⟩
    cases hr : (execOp a.eval oj).run P w with
    | halt x W =>
      rw [hr] at h
      cases x <;> simp only [Oper.uponIn] at h ⊢
      exact hQ _ _ _ h
    | ok x W =>
      rw [hr] at h
      cases x with
      | value u => exact ⟨stay a hy u, by rw [← swap]; exact h⟩
      | skip => exact ⟨stay a hy _, by rw [← swap]; exact h⟩
      | defer d => exact ⟨stay { a with defers := d :: a.defers } (hy.same rfl rfl fun _ => rfl) undef, by rw [← swap, ← Act.put_defers]; exact h⟩
      | enter f args => exact ⟨h.1, h.2.mono fun e W' he => by
          cases e with
          | returned u => exact ⟨stay a hy u, by rw [← swap]; exact he⟩
          | panicked c => exact hQ _ _ _ he
          | outgrown => exact he⟩
      | row r args => exact ⟨h.1, h.2.mono fun u W' he => ⟨stay a hy u, by rw [← swap]; exact he⟩⟩
      | round l f tmps assign body => exact ⟨h.1, h.2.mono fun e W' he => by
          cases e with
          | returned u => exact ⟨stay a hy u, by rw [← swap]; exact he⟩
          | panicked c => exact hQ _ _ _ he
          | outgrown => exact he⟩
      | _ => simp only [Oper.uponIn] at h
  · rw [if_neg hw] at h ⊢
    exact ⟨h.1, stay a hy _, by rw [← swap]; exact h.2⟩
/-- Whatever comes up next; behind number i, if c says so of it, S holds. -/
def heldCIn (F : Fence) (n : Nat) (P : Program) (md : Region.Mode) (ops : Array Oper) (Q : Exit → Act → World → Prop) (S : World → Prop) (c : Nat → Bool) : Nat → Array Bool → Act → World → Prop
  | 0, listed, a, w => Region.ready md ops listed = [] ∧ Q .normal a w
  | k + 1, listed, a, w => (Region.ready md ops listed = [] → Q .normal a w) ∧ ∀ i ∈ Region.ready md ops listed, wpOpIn F n P ops Q i (fun b W => (c i = true → S W) ∧ heldCIn F n P md ops Q S c k (listed.setIfInBounds i true) b W) a w
theorem heldCIn.any : ∀ (k : Nat) (listed : Array Bool) (a : Act) (w : World), heldCIn F n P md ops Q S c k listed a w → wpAnyIn F n P md ops Q k listed a w
  | 0, _, _, _, h => h
  | k + 1, _, _, _, h => ⟨h.1, fun i hi => wpOpIn_mono (fun b W hb => heldCIn.any k _ b W hb.2) (h.2 i hi)⟩
theorem heldCIn.first {i : Nat} {oi : Oper} {v : Value} (hro : F.round = none) (hi : ops[i]? = some oi) (hsel : ∀ (j : Nat) (o : Oper) cs b, ops[j]? = some o → o.op ≠ .select cs b) (hQ : ∀ c a w, Q (.panic c) (a.put oi.dst v) w → Q (.panic c) a w) :
    ∀ (k : Nat) (listed : Array Bool) (a : Act) (w : World),
      (∀ j oj, ops[j]? = some oj → j ≠ i → listed.getD j true = false → (∀ e ∈ oj.after, Region.binds md e = true → e.on ≠ i) → oi.apart ops oj = true) →
      ((∀ W, T W) ∨ Closed md ops listed ∧ ∀ (j : Nat) (oj : Oper), ops[j]? = some oj → j ≠ i → listed.getD j true = false → (∀ k, waitsB md ops i k j = false) → ∀ W, (c j = true → S W) → T W) →
      i ∈ Region.ready md ops listed → GivesIn P ops T oi v a → T w → (∀ W, T W → c i = true → S W) → heldCIn F n P md ops Q S c k (listed.setIfInBounds i true) (a.put oi.dst v) w → heldCIn F n P md ops Q S c (k + 1) listed a w
  | 0, listed, a, w, _, _, hr, hy, hT, hS, H => by
    refine ⟨fun h => absurd (h ▸ hr) (by simp), fun j hj => ?_⟩
    rcases Nat.decEq j i with hne | rfl
    · have := ready_mono hj hne
      rw [H.1] at this
      cases this
    · exact hy.wpOp hro hi hT ⟨hS w hT, H⟩
  | k + 1, listed, a, w, hfree, hk, hr, hy, hT, hS, H => by
    refine ⟨fun h => absurd (h ▸ hr) (by simp), fun j hj => ?_⟩
    rcases Nat.decEq j i with hne | rfl
    · obtain ⟨hun, oj, hoj, hall⟩ := mem_ready.1 hj
      have hdep : ∀ e ∈ oj.after, Region.binds md e = true → e.on ≠ i := fun e he hb heq => by
        have g1 := hall e he hb
        have g0 := (mem_ready.1 hr).1
        rw [heq] at g1
        rcases Nat.lt_or_ge i listed.size with hl | hl
        · simp [hl] at g0 g1; rw [g0] at g1; cases g1
        · simp [Array.getElem?_eq_none hl] at g1
      have h2 := GivesIn.past hro hoj (hfree j oj hoj hne hun hdep) (fun cs b => hsel i oi cs b hi) (fun cs b => hsel j oj cs b hoj) hQ hy (H.2 j (ready_mono hj hne))
      have hback : ∀ m, (listed.setIfInBounds j true).getD m true = false → listed.getD m true = false := fun m hmun => by
        rcases Nat.decEq j m with hjm | rfl
        · rw [getD_set_ne true hjm] at hmun; exact hmun
        · exact hun
      refine wpOpIn_mono (fun b W ⟨g1, g2, g3⟩ => ⟨g2, heldCIn.first hro hi hsel hQ k _ b W (fun m om hm hmi hmun hmd => hfree m om hm hmi (hback m hmun) hmd) (hk.imp id fun h => ⟨closed_next h.1 hj, fun m om hm hmi hmun hmd => h.2 m om hm hmi (hback m hmun) hmd⟩) (ready_mono hr (Ne.symm hne)) g1 (hk.elim (fun h => h W) fun h => h.2 j oj hoj hne hun (waits_ready h.1 (unlisted hr) hj) W g2) hS (by rw [Array.setIfInBounds_comm _ _ hne]; exact g3)⟩) h2
    · exact hy.wpOp hro hi hT ⟨hS w hT, H⟩
theorem regionIn_start {id : Nat} {a : Act} {w : World} (k : Nat) (S : World → Prop) (c : Nat → Bool) (hm : P.follows .mixedOrders = true) (hk : ops.size = k) (h : heldCIn F n P .any ops Q S c k (Array.replicate k false) a w.drew) : (Code.region id ops true).wpIn F n P Q a w :=
  wpIn_region_any hm (heldCIn.any _ _ _ _ (by rw [hk]; exact h))
theorem doneIn {listed : Array Bool} {a : Act} {w : World} (hr : Region.ready md ops listed = []) (h : Q .normal a w) : ∀ k, heldCIn F n P md ops Q S c k listed a w
  | 0 => ⟨hr, h⟩
  | _ + 1 => ⟨fun _ => h, by rw [hr]; simp⟩
/-- Number i yields v in every world that meets S: it is taken. -/
theorem loadIn (i d : Nat) {oi : Oper} {v : Value} {k : Nat} {listed : Array Bool} {l : List Value} {df : List Deferred} {w : World} (hi : ops[i]? = some oi) (hd : oi.dst = some d)
    (hs : Region.noSelect ops = true) (hf : Region.free md ops listed i = true) (hr : (Region.ready md ops listed).contains i = true) (hc : coverB md ops c listed i = true) (hro : F.round = none) (hab : ∀ w, oi.about P w (Act.eval ⟨l.toArray, df⟩) = none)
    (hQ : ∀ c a w, Q (.panic c) (a.put oi.dst v) w → Q (.panic c) a w) (hw : Region.wanted oi (yielded ops l.toArray) = true) (hy : ∀ w, S w → (execOp (Act.eval ⟨l.toArray, df⟩) oi).run P w = .ok (.value v) w) (hS : S w)
    (h : heldCIn F n P md ops Q S c k (listed.setIfInBounds i true) ⟨(l.set d v).toArray, df⟩ w) : heldCIn F n P md ops Q S c (k + 1) listed ⟨l.toArray, df⟩ w := by
  refine heldCIn.first (T := S) hro hi (Region.noSelect_spec hs) hQ k listed _ w (Region.free_spec hi hf) (.inr ⟨coverB_closed hc, fun j oj hj hne hl hdep W hW => hW (coverB_spec hc hj hne hl hdep)⟩) (by simpa using hr) ⟨Or.inl ⟨hw, hy⟩, hab⟩ hS (fun _ h _ => h) ?_
  rw [hd]
  simpa [Act.put] using h
/-- Number i yields v in every world, and c does not speak of it. -/
theorem takeIn (i d : Nat) {oi : Oper} {v : Value} {k : Nat} {listed : Array Bool} {l : List Value} {df : List Deferred} {w : World} (hi : ops[i]? = some oi) (hd : oi.dst = some d)
    (hs : Region.noSelect ops = true) (hf : Region.free md ops listed i = true) (hr : (Region.ready md ops listed).contains i = true) (hc : c i = false) (hro : F.round = none) (hab : ∀ w, oi.about P w (Act.eval ⟨l.toArray, df⟩) = none)
    (hQ : ∀ c a w, Q (.panic c) (a.put oi.dst v) w → Q (.panic c) a w) (hw : Region.wanted oi (yielded ops l.toArray) = true) (hy : ∀ w, (execOp (Act.eval ⟨l.toArray, df⟩) oi).run P w = .ok (.value v) w)
    (h : heldCIn F n P md ops Q S c k (listed.setIfInBounds i true) ⟨(l.set d v).toArray, df⟩ w) : heldCIn F n P md ops Q S c (k + 1) listed ⟨l.toArray, df⟩ w := by
  refine heldCIn.first (T := fun _ => True) hro hi (Region.noSelect_spec hs) hQ k listed _ w (Region.free_spec hi hf) (.inl fun _ => trivial) (by simpa using hr) ⟨Or.inl ⟨hw, fun w _ => hy w⟩, hab⟩ trivial (fun _ _ h => by rw [hc] at h; cases h) ?_
  rw [hd]
  simpa [Act.put] using h
/-- Number i alone may come up, and runs. -/
theorem runIn (i : Nat) {oi : Oper} {k : Nat} {listed : Array Bool} {a : Act} {w : World} (hi : ops[i]? = some oi) (hr : Region.ready md ops listed = [i]) (hw : Region.wanted oi (yielded ops a.tmps) = true)
    (h : ∀ K' : Act → World → Prop, Shut (∀ a w, (c i = true → S w) → heldCIn F n P md ops Q S c k (listed.setIfInBounds i true) a w → K' a w) → Oper.wpIn F n P oi a w K' Q) : heldCIn F n P md ops Q S c (k + 1) listed a w := by
  refine ⟨fun h0 => absurd (hr.symm.trans h0) (by simp), fun j hj => ?_⟩
  rw [hr] at hj
  obtain rfl := List.mem_singleton.1 hj
  refine wpOpIn_step hi fun K' hK => ?_
  rw [if_pos hw]
  exact h K' fun a w hS hA => hK a w ⟨hS, hA⟩
end
end Go.Proofs.YthlfjfmlmcoihaaGreat
