/- Maps from strings to bools that the call makes. -/
import Derived.Test.YtfcaokpadodijaaGreatMgaj
import Derived.Maps.OwnSet
import Derived.StringKeys
namespace Go.Proofs.YtfcaokpadodijaaGreat
open Go.RowKit Go.Maps

/-- The map's key. -/
def kL (k : ByteArray) : Lit := .string k.data.toList
theorem kL_key {k : ByteArray} (h : k.size ≤ 1000000) : keyOf Tryz.prog 9 (.string k) = some (kL k) := WideMaps.keyOf_string_mk Tryz.underlying9 (by unfold maxLen; omega)
theorem lawS : Keyed Tryz.prog 9 := string_keyed Tryz.underlying9
theorem zero_bool (w : World) : (zeroValue 4).run Tryz.prog w = .ok (.bool false) w := by kernel_rfl
theorem bool_inv' {H : Type} {P : Program} {e : TypeId} (he : P.underlying e = some .bool) {v : Value} {z : DataW H × List MemPlace} (h : plainElem P e v = some z) : ∃ x, v = .bool x ∧ z = (.lit (.bool x), []) := by
 unfold plainElem at h
 rw [he] at h
 cases v <;> simp at h
 exact ⟨_, rfl, h.symm⟩
theorem bool_inv {H : Type} {v : Value} {z : DataW H × List MemPlace} (h : plainElem Tryz.prog 4 v = some z) : ∃ x, v = .bool x ∧ z = (.lit (.bool x), []) := bool_inv' Tryz.underlying4 h
/-- A map of at most n keys in block b. -/
def BMap (w : World) (b n : Nat) : Prop := ∃ D : DataW Unit, w.ownsMap Tryz.prog 9 (plainElem Tryz.prog 4) b n D
theorem BMap.kept {w w' : World} {b n : Nat} {row : Option Nat} (h : BMap w b n) (hg : w.grownBy w' row) (hne : some b ≠ row) : BMap w' b n := by
 obtain ⟨D, h⟩ := h; exact ⟨D, h.kept hg hne⟩
theorem BMap.below {w w' : World} {b n : Nat} (h : BMap w b n) (hb : Below w.heap.size w w') : BMap w' b n := h.kept (gb_below hb none) (by simp)
theorem BMap.lt {w : World} {b n : Nat} (h : BMap w b n) : b < w.heap.size := by obtain ⟨D, h⟩ := h; exact h.lt
theorem BMap.mono {w : World} {b n n' : Nat} (h : BMap w b n) (hn : n ≤ n') : BMap w b n' := by obtain ⟨D, h⟩ := h; exact ⟨D, h.mono hn⟩
theorem BMap.look {w : World} {b n : Nat} (h : BMap w b n) (k : ByteArray) (hk : k.size ≤ 1000000) : ∃ x, (Instr.lookup 79 (.map (some b)) (.string k) false).run Tryz.prog w = .ok (.bool x) w := by
 obtain ⟨D, h⟩ := h
 obtain ⟨v, ps, h1, h2⟩ := h.lookup lawS Tryz.underlying79 (zero_bool w) (plainElem_bool Tryz.underlying4 false) (kL_key hk)
 obtain ⟨x, rfl, _⟩ := bool_inv h2
 exact ⟨x, h1⟩
theorem BMap.put {w : World} {b n : Nat} (h : BMap w b n) (hn : n < 1000000) (k : ByteArray) (hk : k.size ≤ 1000000) (x : Bool) : ∃ w', (Instr.mapUpdate 79 (.map (some b)) (.string k) (.bool x)).run Tryz.prog w = .ok () w' ∧ BMap w' b (n + 1) ∧ w.grownBy w' (some b) := by
 obtain ⟨D, h⟩ := h
 obtain ⟨w', h1, h2, h3⟩ := h.update lawS Tryz.underlying79 (show n < maxLen by unfold maxLen; omega) (kL_key hk) (plainElem_bool Tryz.underlying4 x)
 exact ⟨w', h1, ⟨_, h2⟩, h3⟩
theorem BMap.made (w : World) : BMap (w.alloc (.map #[] 0)) w.heap.size 0 := ⟨_, World.ownsMap_made _ _ _ _⟩
end Go.Proofs.YtfcaokpadodijaaGreat
