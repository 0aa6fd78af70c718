/- The memo's laws: looked up, put, kept. -/
import Derived.Test.YtfcaokpadodijaaGreatMgaw
import Derived.Maps.OwnSet
import Derived.Maps.Views
namespace Go.Proofs.YtfcaokpadodijaaGreat
open Go.RowKit Go.Maps

/-- What the memo holds at each pair is as Q says. -/
def MemoQ (w : World) (b n : Nat) (Q : Nat → Nat → Value → Prop) : Prop :=
 ∃ D : DataW Value, Memo w b n D ∧ IsMap D ∧ ∀ i u l, i ≤ 1000000 → u ≤ 1000000 → keyOf Tryz.prog 105 (k2 i u) = some l → has D l = true → ∃ v, (∀ z, D.atKey l z = .held v) ∧ Q i u v
theorem MemoQ.mono {w : World} {b n n' : Nat} {Q Q' : Nat → Nat → Value → Prop} (h : MemoQ w b n Q) (hn : n ≤ n') (hq : ∀ i u v, Q i u v → Q' i u v) : MemoQ w b n' Q' := by
 obtain ⟨D, h1, h2, h3⟩ := h
 exact ⟨D, World.ownsMap.mono h1 hn, h2, fun i u l hi hu hk hh => by obtain ⟨v, a, b⟩ := h3 i u l hi hu hk hh; exact ⟨v, a, hq _ _ _ b⟩⟩
theorem MemoQ.kept {w w' : World} {b n : Nat} {row : Option Nat} {Q : Nat → Nat → Value → Prop} (h : MemoQ w b n Q) (hg : w.grownBy w' row) (hne : some b ≠ row) : MemoQ w' b n Q := by
 obtain ⟨D, h1, h2⟩ := h
 exact ⟨D, World.ownsMap.kept h1 hg hne, h2⟩
theorem MemoQ.lt {w : World} {b n : Nat} {Q : Nat → Nat → Value → Prop} (h : MemoQ w b n Q) : b < w.heap.size := by
 obtain ⟨D, h1, _⟩ := h; exact World.ownsMap.lt h1
theorem MemoQ.made (w : World) (Q : Nat → Nat → Value → Prop) : MemoQ (w.alloc (.map #[] 0)) w.heap.size 0 Q :=
 ⟨.map [], World.ownsMap_made _ _ _ _, isMap_empty, fun i u l _ _ _ h => by simp [has_eq] at h⟩
def zeroLu : Value := .agg #[.int .i64 0, .int .i64 0, .slice none 0 0]
theorem zero_lu (w : World) : (zeroValue 103).run Tryz.prog w = .ok zeroLu w := by kernel_rfl
theorem MemoQ.look {w : World} {b n : Nat} {Q : Nat → Nat → Value → Prop} (h : MemoQ w b n Q) (i u : Nat) (hi : i ≤ 1000000) (hu : u ≤ 1000000) :
  ∃ (v : Value) (ok : Bool), (Instr.lookup 100 (.map (some b)) (k2 i u) true).run Tryz.prog w = .ok (.tuple #[v, .bool ok]) w ∧ (ok = true → Q i u v) ∧ (ok = false → v = zeroLu) := by
 obtain ⟨D, h1, h2, h3⟩ := h
 obtain ⟨l, hl⟩ := key2 i u hi hu
 obtain ⟨v, ps, hrun, hv⟩ := World.ownsMap.look_ok h1 law2 Tryz.underlying100 (zero_lu w) (zd := .held zeroLu) (zp := []) rfl hl
 have hv' : DataW.held v = D.atKey l (.held zeroLu) := by
  simp only [heldR, Option.some.injEq, Prod.mk.injEq] at hv
  exact hv.1
 refine ⟨v, has D l, hrun, fun hh => ?_, fun hh => ?_⟩
 ·obtain ⟨v', a, q⟩ := h3 i u l hi hu hl hh
  rw [a] at hv'
  cases hv'
  exact q
 ·rw [atKey_of_not_has hh] at hv'
  cases hv'
  rfl
theorem MemoQ.put {w : World} {b n : Nat} {Q : Nat → Nat → Value → Prop} (h : MemoQ w b n Q) (hn : n < 1000000) (i u : Nat) (hi : i ≤ 1000000) (hu : u ≤ 1000000) (v : Value) (hq : Q i u v) :
  ∃ w', (Instr.mapUpdate 100 (.map (some b)) (k2 i u) v).run Tryz.prog w = .ok () w' ∧ MemoQ w' b (n + 1) Q ∧ w.grownBy w' (some b) := by
 obtain ⟨D, h1, h2, h3⟩ := h
 obtain ⟨l, hl⟩ := key2 i u hi hu
 obtain ⟨w', hrun, h4, h5⟩ := World.ownsMap.update h1 law2 Tryz.underlying100 (show n < maxLen by unfold maxLen; omega) hl (show heldR v = some (.held v, []) from rfl)
 refine ⟨w', hrun, ⟨_, h4, h2.put _ _, fun i' u' l' hi' hu' hk hh => ?_⟩, h5⟩
 by_cases e : l' = l
 ·subst e
  obtain ⟨rfl, rfl⟩ := k2_inj hk hl; exact ⟨v, fun z => atKey_put_same h2 (law2.key hl) _ z, hq⟩
 ·rw [has_put_other e] at hh
  obtain ⟨v', a, q⟩ := h3 i' u' l' hi' hu' hk hh; exact ⟨v', fun z => by rw [atKey_put_other e]; exact a z, q⟩
end Go.Proofs.YtfcaokpadodijaaGreat
