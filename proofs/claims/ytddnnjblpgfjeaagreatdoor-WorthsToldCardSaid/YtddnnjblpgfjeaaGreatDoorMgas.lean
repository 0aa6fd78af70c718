/- Maps from strings to ints that the call makes. -/
import Derived.Test.YtddnnjblpgfjeaaGreatDoorMgan
import Derived.Maps.OwnSet
import Derived.StringKeys
namespace Go.Proofs.YtddnnjblpgfjeaaGreatDoor
open Go.RowKit Go.Maps

/-- The map's key. -/
def kLi (k : ByteArray) : Lit := .string k.data.toList
theorem kLi_key {k : ByteArray} (h : k.size ≤ 1000000) : keyOf Tryz.prog 9 (.string k) = some (kLi k) := WideMaps.keyOf_string_mk Tryz.underlying9 (by unfold maxLen; omega)
theorem kLi_inj {a b : ByteArray} (h : kLi a = kLi b) : a = b := by
 have := Lit.string.inj h
 cases a with | mk x => cases b with | mk y => exact congrArg ByteArray.mk (Array.toList_inj.1 this)
theorem kLi_is (k : ByteArray) : WideAt.IsKeyLit (kLi k) := by trivial
theorem lawSi : Keyed Tryz.prog 9 := string_keyed Tryz.underlying9
theorem zero_inti (w : World) : (zeroValue 3).run Tryz.prog w = .ok (.int .i64 0) w := by kernel_rfl
/-- The map in block b reads as f; at most n keys. -/
def IMap (w : World) (b n : Nat) (f : ByteArray → Option Int) : Prop :=
 ∃ D : DataW Unit, w.ownsMap Tryz.prog 9 (plainElem Tryz.prog 3) b n D ∧ ∀ k, Maps.has D (kLi k) = (f k).isSome ∧ D.atKey (kLi k) (.lit (.int .i64 0)) = .lit (.int .i64 ((f k).getD 0))
theorem IMap.kept {w w' : World} {b n : Nat} {f : ByteArray → Option Int} {row : Option Nat} (h : IMap w b n f) (hg : w.grownBy w' row) (hne : some b ≠ row) : IMap w' b n f := by
 obtain ⟨D, h1, h2⟩ := h; exact ⟨D, h1.kept hg hne, h2⟩
theorem IMap.below {w w' : World} {b n : Nat} {f : ByteArray → Option Int} (h : IMap w b n f) (hb : Below w.heap.size w w') : IMap w' b n f := h.kept (gb_below hb none) (by simp)
theorem IMap.lt {w : World} {b n : Nat} {f : ByteArray → Option Int} (h : IMap w b n f) : b < w.heap.size := by obtain ⟨D, h, _⟩ := h; exact h.lt
theorem IMap.mono {w : World} {b n n' : Nat} {f : ByteArray → Option Int} (h : IMap w b n f) (hn : n ≤ n') : IMap w b n' f := by obtain ⟨D, h, h2⟩ := h; exact ⟨D, h.mono hn, h2⟩
theorem IMap.made (w : World) : IMap (w.alloc (.map #[] 0)) w.heap.size 0 fun _ => none := ⟨.map [], World.ownsMap_made _ _ _ _, fun k => by simp [Maps.has]; rfl⟩
theorem IMap.look {w : World} {b n : Nat} {f : ByteArray → Option Int} (h : IMap w b n f) (k : ByteArray) (hk : k.size ≤ 1000000) : (Instr.lookup 129 (.map (some b)) (.string k) false).run Tryz.prog w = .ok (.int .i64 ((f k).getD 0)) w := by
 obtain ⟨D, h, h2⟩ := h
 obtain ⟨c, h1, h3, _⟩ := h.lookup_int lawSi Tryz.underlying129 Tryz.underlying3 (zero_inti w) (kLi_key hk)
 rw [(h2 k).2] at h3
 have := DataW.lit.inj h3
 have := (Lit.int.inj this).2
 rw [h1, this]
theorem IMap.lookOk {w : World} {b n : Nat} {f : ByteArray → Option Int} (h : IMap w b n f) (k : ByteArray) (hk : k.size ≤ 1000000) : (Instr.lookup 129 (.map (some b)) (.string k) true).run Tryz.prog w = .ok (.tuple #[.int .i64 ((f k).getD 0), .bool (f k).isSome]) w := by
 obtain ⟨D, h, h2⟩ := h
 obtain ⟨v, ps, h1, hv⟩ := h.look_ok lawSi Tryz.underlying129 (zero_inti w) (plainElem_int Tryz.underlying3 (by decide)) (kLi_key hk)
 obtain ⟨c, rfl, h3, _⟩ := plainElem_int_inv Tryz.underlying3 hv
 rw [(h2 k).2] at h3
 have := DataW.lit.inj (congrArg Prod.fst h3)
 have := (Lit.int.inj this).2
 rw [h1, (h2 k).1, this]
theorem IMap.put {w : World} {b n : Nat} {f : ByteArray → Option Int} (h : IMap w b n f) (hn : n < 1000000) (k : ByteArray) (hk : k.size ≤ 1000000) (x : Int) (hx : -9223372036854775808 ≤ x ∧ x ≤ 9223372036854775807) :
  ∃ w', (Instr.mapUpdate 129 (.map (some b)) (.string k) (.int .i64 x)).run Tryz.prog w = .ok () w' ∧ IMap w' b (n + 1) (fun k' => if beqS k k' then some x else f k') ∧ w.grownBy w' (some b) := by
 obtain ⟨D, h, h2⟩ := h
 obtain ⟨w', h1, h3, h4⟩ := h.update lawSi Tryz.underlying129 (show n < maxLen by unfold maxLen; omega) (kLi_key hk) (plainElem_int Tryz.underlying3 (WalkArith.wf_i64 (by omega)))
 refine ⟨w', h1, ⟨_, h3, fun k' => ?_⟩, h4⟩
 by_cases e : k' = k
 ·subst e
  rw [has_put_same h.isMap (kLi_is _), atKey_put_same h.isMap (kLi_is _)]; dsimp only
  rw [beqS_self]; exact ⟨rfl, rfl⟩
 ·have hne : kLi k' ≠ kLi k := fun e' => e (kLi_inj e')
  have hb : beqS k k' = false := by
   cases hq : beqS k k'
   ·rfl
   ·exact absurd (beqS_iff.1 hq).symm e
  rw [has_put_other hne, atKey_put_other hne]; dsimp only
  rw [hb]; exact h2 k'
end Go.Proofs.YtddnnjblpgfjeaaGreatDoor
