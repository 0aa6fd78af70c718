/- An append at an operation by itself. -/
import Derived.Test.YtddnnjblpgfjeaaGreatDoorMgah
import Derived.Test.YtddnnjblpgfjeaaGreatDoorMgaa
import Derived.Test.YtddnnjblpgfjeaaGreatDoorMgai
import Derived.Test.YtddnnjblpgfjeaaGreatDoorMgam
import Derived.Laws.StructEq
import Derived.Maps.AppendAt
import Derived.Laws.OwnMore
/- What all rows of records share. -/
namespace Go.Proofs.YtddnnjblpgfjeaaGreatDoor
open Go.RowKit

theorem filter_snocG {α : Type} (p : α → Bool) {l : List α} {k : Nat} {x : α} (hk : l[k]? = some x) : (l.take (k + 1)).filter p = (l.take k).filter p ++ (if p x then [x] else []) := by
 have hlt : k < l.length := (List.getElem?_eq_some_iff.1 hk).1
 have e : l.take (k + 1) = l.take k ++ [x] := by
  rw [List.take_succ_eq_append_getElem hlt, (List.getElem?_eq_some_iff.1 hk).2]
 rw [e, List.filter_append]
 cases hp : p x <;> simp [hp]
theorem filter_takeG {α : Type} {p : α → Bool} {fs : List α} {i : Nat} {f : α} (hf : fs[i]? = some f) (hpf : p f = true) (h0 : ∀ j g, j < i → fs[j]? = some g → p g = false) : (fs.take (i + 1)).filter (fun g => !p g) = fs.take i := by
 have hi := (List.getElem?_eq_some_iff.1 hf).1
 rw [filter_snocG _ hf, hpf]
 simp only [Bool.not_true, Bool.false_eq_true, if_false, List.append_nil]
 rw [List.filter_eq_self]
 intro g hg
 obtain ⟨j, hj⟩ := List.getElem?_of_mem hg
 rw [List.getElem?_take] at hj
 split at hj
 ·rename_i hji
  rw [h0 j g hji hj]; rfl
 ·cases hj
theorem take_snocG {α : Type} {l : List α} {k : Nat} {x : α} (hk : l[k]? = some x) : l.take (k + 1) = l.take k ++ [x] := by
 have hlt : k < l.length := (List.getElem?_eq_some_iff.1 hk).1
 rw [List.take_succ_eq_append_getElem hlt, (List.getElem?_eq_some_iff.1 hk).2]
theorem results_cellG {fn : Func} {p : Tmp} {ty : TypeId} (h : fn.results = #[.cell p ty]) (tmps : Array Value) (P : Program) (w : World) :
  (results fn tmps).run P w = ((asAddr (tmps.getD p undef)).run P w).andThen fun a w₁ => (loadVar ty a).run P w₁ := by
 simp only [results, h]
 simp [Sem.run_bind, Result.andThen]
theorem frozen_ofG {w : World} {X : Nat} {cur : Array Value} {T : Nat} (h : w.heap[X]? = some (.cells cur T (0, 0))) (o : Nat) : w.frozen? ⟨X, o, none⟩ = false := by simp [World.frozen?, h]
theorem below_drewNG {w w' : World} (h : Below w.heap.size w w') (n : Nat) : Below w.heap.size w (w'.drewN n) := ⟨h.os, h.tape, h.output, h.size, h.block⟩
theorem below_drewG {w w' : World} (h : Below w.heap.size w w') : Below w.heap.size w w'.drew := ⟨h.os, h.tape, h.output, h.size, h.block⟩
theorem own_belowG {w w' : World} {base T sz n : Nat} {v : Value} {xs : List Value} (h : w.ownsRow base T sz v n xs) (hb : Below w.heap.size w w') : w'.ownsRow base T sz v n xs :=
 h.kept (gb_below hb (some w.heap.size)) (.inr fun e => by
  obtain ⟨_, cur, hc⟩ := own_block h w.heap.size e; have := lt_of_heap hc; omega)
theorem own_keepG {w w' : World} {base T sz n B : Nat} {v : Value} {xs : List Value} (h : w.ownsRow base T sz v n xs) (hg : w.grownBy w' (some B)) (hb : B < base) : w'.ownsRow base T sz v n xs :=
 h.kept hg (.inr fun e => by have := (own_block h B e).1; omega)
theorem heap_gbG {w w' : World} {B X : Nat} {o : Obj} (h : w.heap[X]? = some o) (hg : w.grownBy w' (some B)) (hne : X ≠ B) : w'.heap[X]? = some o :=
 (hg.block X (lt_of_heap h) (by simpa using hne)).trans h
theorem heap_alG {w : World} {X : Nat} {o : Obj} (h : w.heap[X]? = some o) (o' : Obj) : (w.alloc o').heap[X]? = some o := (heap_alloc_old w o' (lt_of_heap h)).trans h
theorem cells_newG (w : World) (l : List Value) (T : Nat) : ∀ j u, l[j]? = some u → (w.alloc (.cells l.toArray T)).cell? ((⟨w.heap.size, 0, none⟩ : Addr).add j) = some u := by
 intro j u hu
 have hadd : (⟨w.heap.size, 0, none⟩ : Addr).add j = ⟨w.heap.size, j, none⟩ := by unfold Addr.add; split <;> simp_all
 rw [hadd, World.cell?_alloc_at _ _ _ _ rfl]
 simpa using hu
end Go.Proofs.YtddnnjblpgfjeaaGreatDoor
namespace Go.Proofs.YtddnnjblpgfjeaaGreatDoor
open Go.RowKit

section
variable {P : Program} (w : World)
/-- append at an operation by itself, however few are appended. -/
theorem wp_append_at {o : Oper} {a : Act} {K : Act → World → Prop} {Q : Exit → Act → World → Prop} (s x : Operand) (t : TypeId)
  (ho : o.op = .call { callee := .builtin .append, args := #[s, x], argTypes := #[t, t] })
  (base : Nat) (e : TypeId) (i : TypeInfo) (z : Value) (size bytes : Nat) (ht : P.underlying t = some (.slice e)) (hi : P.info? e = some i) (hz : i.zero = some z)
  (hsize : i.size = size) (hby : i.bytes = bytes) (hzs : z.cells.size = size) (hsz : 0 < size)
  (v : Value) (n : Nat) (xs : List Value) (hs : a.eval s = v) (hown : w.ownsRow base e size v n xs)
  (ad : Addr) (m c : Nat) (news : List Value) (hx : a.eval x = .slice (some ad) m c) (hl : news.length = m * size) (hnews : ∀ j u, news[j]? = some u → w.cell? (ad.add j) = some u) (h1 : ∀ u ∈ news, u.oneCell' = true)
  (h63 : n + m ≤ maxLen) (hbytes : (n + m) * bytes ≤ 140737488355328) (hbase : base ≤ w.heap.size)
  (h : ∀ v' w', w'.ownsRow base e size v' (n + m) (xs ++ news) → w.grownBy w' v.ownBlock → K (a.put o.dst v') w') : Oper.wp P o a w K Q := by
 obtain ⟨v', w', hr, h2, h3, -, -⟩ := run_append_own_at (P := P) w base t o.type e i z size bytes ht hi hz hsize hby hzs hsz v n xs hown ad m c news hl hnews h1 h63 hbytes hbase
 unfold Oper.wp execOp
 simp only [ho, resolve, invoke, builtin, Sem.run_bind, Sem.run_pure, Result.andThen_ok, List.map_toArray, List.map_cons, List.map_nil, hs, hx, hr]
 exact h v' w' h2 h3
end
end Go.Proofs.YtddnnjblpgfjeaaGreatDoor
