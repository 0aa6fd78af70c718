/- Maps from strings to rows of ints that the call makes. -/
import Derived.Test.YtddnnjblpgfjeaaGreatDoorMgas
import Derived.Maps.OwnRows
import Derived.Maps.GroupsBeside
import Derived.Maps.AppendAt
namespace Go.Proofs.YtddnnjblpgfjeaaGreatDoor
open Go.RowKit Go.Maps Go.ChangeShapes Go.WideShapes

def gd (zs : List Int) : DataW Unit := if zs = [] then .nil else .slice (lits .i64 zs) []
theorem lits_inj {a b : List Int} (h : (lits .i64 a : List (DataW Unit)) = lits .i64 b) : a = b := by
 induction a generalizing b with
 | nil => cases b with
  | nil => rfl
  | cons y b => simp [lits] at h
 | cons x a ih => cases b with
  | nil => simp [lits] at h
  | cons y b =>
   simp only [lits, List.map_cons, List.cons.injEq] at h
   have h1 := (Lit.int.inj (DataW.lit.inj h.1)).2; rw [h1, ih (by simpa [lits] using h.2)]
theorem zero_intsG (w : World) : (zeroValue 22).run Tryz.prog w = .ok (.slice none 0 0) w := by kernel_rfl
/-- The map in block b reads as f; at most n keys, no row longer than n. -/
def GMap (w : World) (base b n : Nat) (f : ByteArray → List Int) : Prop :=
 ∃ D : DataW Unit, w.ownsGroups Tryz.prog 9 base 3 .i64 b n D ∧ ∀ k, D.atKey (kLi k) .nil = gd (f k)
theorem GMap.made (w : World) : GMap (w.alloc (.map #[] 0)) (w.heap.size + 1) w.heap.size 0 fun _ => [] := ⟨.map [], World.ownsGroups_made _ _ _ _ _, fun k => by simp [gd]; rfl⟩
theorem GMap.look {w : World} {base b n : Nat} {f : ByteArray → List Int} (h : GMap w base b n f) (hn : n < 1000000) (k : ByteArray) (hk : k.size ≤ 1000000) :
  ∃ v, (Instr.lookup 172 (.map (some b)) (.string k) false).run Tryz.prog w = .ok v w ∧ w.ownsInts base 3 .i64 v (f k) ∧ (f k).length ≤ n ∧
   ∀ (w1 : World) (v' : Value) (zs' : List Int), w.grownBy w1 v.ownBlock → w1.ownsInts base 3 .i64 v' zs' → zs' ≠ [] → zs'.length ≤ n + 1 → (v'.ownBlock = v.ownBlock ∨ ∃ g, v'.ownBlock = some g ∧ w.heap.size ≤ g) →
    ∃ w2, (Instr.mapUpdate 172 (.map (some b)) (.string k) v').run Tryz.prog w1 = .ok () w2 ∧ GMap w2 base b (n + 1) (fun k' => if beqS k k' then zs' else f k') ∧ w1.grownBy w2 (some b) := by
 obtain ⟨D, h, h2⟩ := h
 have hm : IsMap D := by obtain ⟨_, _, _, _, _, rfl, _⟩ := h; exact ⟨_, rfl⟩
 obtain ⟨v, zs, hrun, hat, hoi, hl, hback⟩ := h.at lawSi Tryz.underlying172 (zero_intsG w) (by unfold maxLen; omega) (kLi_key hk)
 have hz : zs = f k := by
  rw [h2 k] at hat
  unfold gd at hat
  rcases hoi.datum (H := Unit) with ⟨e1, e2⟩ | e1
  ·rw [e1] at hat
   by_cases hf : f k = []
   ·rw [e2, hf]
   ·rw [if_neg hf] at hat; cases hat
  ·rw [e1] at hat
   by_cases hf : f k = []
   ·rw [if_pos hf] at hat; cases hat
   ·rw [if_neg hf] at hat
    exact (lits_inj (DataW.slice.inj hat).1).symm
 subst hz
 refine ⟨v, hrun, hoi, hl, fun w1 v' zs' hg ho hne hl' hloc => ?_⟩
 obtain ⟨w2, r1, r2, r3⟩ := hback w1 v' zs' hg ho hl' hloc
 refine ⟨w2, r1, ⟨_, r2, fun k' => ?_⟩, r3⟩
 by_cases e : k' = k
 ·subst e
  rw [atKey_put_same hm (kLi_is _)]; dsimp only
  rw [beqS_self, if_pos rfl, ho.datum_pos hne]; unfold gd; rw [if_neg hne]
 ·have hnk : kLi k' ≠ kLi k := fun e' => e (kLi_inj e')
  have hb : beqS k k' = false := by
   cases hq : beqS k k'
   ·rfl
   ·exact absurd (beqS_iff.1 hq).symm e
  rw [atKey_put_other hnk]; dsimp only
  rw [hb]; exact h2 k'
theorem GMap.kept {w w' : World} {base b n : Nat} {f : ByteArray → List Int} {row : Option Nat} (h : GMap w base b n f) (hg : w.grownBy w' row) (hne : some b ≠ row) (hr : ∀ j, row = some j → j < base) : GMap w' base b n f := by
 obtain ⟨D, h1, h2⟩ := h
 exact ⟨D, h1.kept hg hne (h1.rowsAbove hr), h2⟩
theorem GMap.below {w w' : World} {base b n : Nat} {f : ByteArray → List Int} (h : GMap w base b n f) (hb : Below w.heap.size w w') : GMap w' base b n f := h.kept (gb_below hb none) (by simp) (fun _ e => by cases e)
theorem GMap.lt {w : World} {base b n : Nat} {f : ByteArray → List Int} (h : GMap w base b n f) : b < w.heap.size ∧ b < base := by
 obtain ⟨D, ⟨es, clock, hb, _, _, _, hbb, _⟩, _⟩ := h
 exact ⟨lt_of_heap hb, hbb⟩
theorem IMap.map {w : World} {b n : Nat} {f : ByteArray → Option Int} (h : IMap w b n f) : ∃ es cl, w.heap[b]? = some (.map es cl) := by obtain ⟨D, ⟨es, cl, hb, _⟩, _⟩ := h; exact ⟨es, cl, hb⟩
theorem GMap.map {w : World} {base b n : Nat} {f : ByteArray → List Int} (h : GMap w base b n f) : ∃ es cl, w.heap[b]? = some (.map es cl) := by obtain ⟨D, ⟨es, cl, hb, _⟩, _⟩ := h; exact ⟨es, cl, hb⟩
/-- Beside another map that is written. -/
theorem GMap.beside {w w' : World} {base b n c : Nat} {f : ByteArray → List Int} (h : GMap w base b n f) (hg : w.grownBy w' (some c)) (hc : ∃ es cl, w.heap[c]? = some (.map es cl)) (hne : b ≠ c) : GMap w' base b n f := by
 obtain ⟨D, h1, h2⟩ := h
 refine ⟨D, h1.kept hg (by simpa using hne) (fun es clock hb x hx => ?_), h2⟩
 obtain ⟨es', clock', hb', F, _⟩ := h1
 obtain ⟨rfl, rfl⟩ : es' = es ∧ clock' = clock := by rw [hb'] at hb; simpa using hb
 cases hx' : x.val.ownBlock with
 | none => exact Or.inl rfl
 | some g =>
  refine Or.inr (fun e1 => ?_)
  obtain ⟨y, hy⟩ := F.reads x hx; obtain ⟨z, hz, _⟩ := Go.WideElems.rd_val hy; obtain ⟨zs, hoi, _⟩ := rowElem_inv hz; obtain ⟨_, cur, hcur⟩ := own_block hoi.1 g hx'; obtain ⟨es2, cl2, hc2⟩ := hc; have e2 : g = c := Option.some.inj e1
  rw [e2, hc2] at hcur
  cases hcur
section
variable {P : Program} (w : World)
/-- append at an operation by itself, and where the new row lies. -/
theorem wp_append_loc {o : Oper} {a : Act} {K : Act → World → Prop} {Q : Exit → Act → World → Prop} (s x : Operand) (t : TypeId)
  (ho : o.op = .call { callee := .builtin .append, args := #[s, x], argTypes := #[t, t] })
  (base : Nat) (e : TypeId) (i : TypeInfo) (z : Value) (size bytes : Nat) (ht : P.underlying t = some (.slice e)) (hi : P.info? e = some i) (hz : i.zero = some z)
  (hsize : i.size = size) (hby : i.bytes = bytes) (hzs : z.cells.size = size) (hsz : 0 < size)
  (v : Value) (n : Nat) (xs : List Value) (hs : a.eval s = v) (hown : w.ownsRow base e size v n xs)
  (ad : Addr) (m c : Nat) (news : List Value) (hx : a.eval x = .slice (some ad) m c) (hl : news.length = m * size) (hnews : ∀ j u, news[j]? = some u → w.cell? (ad.add j) = some u) (h1 : ∀ u ∈ news, u.oneCell' = true)
  (h63 : n + m ≤ maxLen) (hbytes : (n + m) * bytes ≤ 140737488355328) (hbase : base ≤ w.heap.size)
  (h : ∀ v' w', w'.ownsRow base e size v' (n + m) (xs ++ news) → w.grownBy w' v.ownBlock → (v'.ownBlock = v.ownBlock ∨ v'.ownBlock = some w.heap.size) → K (a.put o.dst v') w') : Oper.wp P o a w K Q := by
 obtain ⟨v', w', hr, h2, h3, -, h4⟩ := run_append_own_at (P := P) w base t o.type e i z size bytes ht hi hz hsize hby hzs hsz v n xs hown ad m c news hl hnews h1 h63 hbytes hbase
 unfold Oper.wp execOp
 simp only [ho, resolve, invoke, builtin, Sem.run_bind, Sem.run_pure, Result.andThen_ok, List.map_toArray, List.map_cons, List.map_nil, hs, hx, hr]
 exact h v' w' h2 h3 h4
end
end Go.Proofs.YtddnnjblpgfjeaaGreatDoor
