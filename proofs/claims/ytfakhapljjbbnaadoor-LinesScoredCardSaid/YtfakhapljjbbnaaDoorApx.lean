/- An append at an operation by itself, inside a fence; a box that holds a slice that grows. -/
import Derived.Maps.AppendAt
import Derived.OwnWalkIn
import Derived.RangeFuncBox
import Derived.Test.YtfakhapljjbbnaaDoorApw
import Derived.Test.YtfakhapljjbbnaaDoorSpd
namespace Go.Proofs.YtfakhapljjbbnaaDoor
open Go.RowKit

/-- append at an operation by itself, inside a fence. -/
theorem wpIn_append_at {F : Fence} {n : Nat} {P : Program} (w : World) {o : Oper} {a : Act} {K : Act → World → Prop} {Q : Exit → Act → World → Prop} (s x : Operand) (t : TypeId)
    (hop : o.op = .call { callee := .builtin .append, args := #[s, x], argTypes := #[t, t] })
    (base : Nat) (e : TypeId) (i : TypeInfo) (z : Value) (size bytes : Nat) (ht : P.underlying t = some (.slice e)) (hi : P.info? e = some i) (hz : i.zero = some z)
    (hsize : i.size = size) (hby : i.bytes = bytes) (hzs : z.cells.size = size) (hsz : 0 < size)
    (v : Value) (k : Nat) (xs : List Value) (hs : a.eval s = v) (hown : w.ownsRow base e size v k xs)
    (ad : Addr) (m c : Nat) (news : List Value) (hx : a.eval x = .slice (some ad) m c) (hl : news.length = m * size) (hnews : ∀ j u, news[j]? = some u → w.cell? (ad.add j) = some u) (h1 : ∀ u ∈ news, u.oneCell' = true)
    (h63 : k + m ≤ maxLen) (hbytes : (k + m) * bytes ≤ 140737488355328) (hbase : base ≤ w.heap.size)
    (h : ∀ v' w', w'.ownsRow base e size v' (k + m) (xs ++ news) → w.grownBy w' v.ownBlock → K (a.put o.dst v') w') : Oper.wpIn F n P o a w K Q := by
  obtain ⟨v', w', hrun, r1, r2, -, -⟩ := run_append_own_at (P := P) w base t o.type e i z size bytes ht hi hz hsize hby hzs hsz v k xs hown ad m c news hl hnews h1 h63 hbytes hbase
  unfold Oper.wpIn
  refine ⟨?_, ?_⟩
  · simp [Oper.about, hop, resolve, Target.leads, Sem.run_pure]
  · rw [Oper.semAt_plain F _ _ (by rw [hop]; intro c hc'; cases hc')]
    simp [execOp, hop, resolve, invoke, builtin, hs, hx, hrun, Result.andThen]
    exact h _ _ r1 r2

theorem keepsOthers_of_below {W W' : World} (h : Below W.heap.size W W') : KeepsOthers W W' :=
  ⟨h.size, fun k o hk ho => (h.block k (lt_of_heap hk)).trans hk⟩
/-- A box holds a slice; calls, then an append to it, then it is put back: what there is then. -/
theorem box_step {W w5 w8 : World} {n₀ m B tB tP k k' : Nat} {v v' : Value} {xs xs' : List Value} {o : Obj} (hb5 : Below W.heap.size W w5) (hv : Boxed W B tB v) (hrow : W.ownsRow m tP 2 v k xs) (hm : n₀ ≤ m) (hn : n₀ ≤ W.heap.size)
    (hown8 : w8.ownsRow m tP 2 v' k' xs') (hgrow : (w5.alloc o).grownBy w8 v.ownBlock) (hne : tB ≠ tP) :
    Boxed w8 B tB v ∧ KeepsOthers W (w8.setCell ⟨B, 0, none⟩ v') ∧ Kept n₀ B W (w8.setCell ⟨B, 0, none⟩ v') ∧ Boxed (w8.setCell ⟨B, 0, none⟩ v') B tB v' ∧ (w8.setCell ⟨B, 0, none⟩ v').ownsRow m tP 2 v' k' xs' ∧
      ∀ (base : Nat) (w : World), base ≤ B → base ≤ m → base ≤ W.heap.size → Below base w W → Below base w (w8.setCell ⟨B, 0, none⟩ v') := by
  have h5 : Boxed (w5.alloc o) B tB v := (hv.kept (gb_below hb5 none) (by simp)).alloc o
  have hr5 : (w5.alloc o).ownsRow m tP 2 v k xs := (own_below hrow hb5).alloc o
  have hv8 : Boxed w8 B tB v := h5.kept hgrow (h5.not_row hne hr5)
  have hbl := own_block hr5
  refine ⟨hv8, ?_, ⟨?_, fun j hj hjs => ?_⟩, hv8.set v', hown8.kept (grownBy_setCell' w8 B v') (.inr (hv8.not_row hne hown8).symm), fun base w h1 h2 h3 hb => ?_⟩
  · refine (((keepsOthers_of_below hb5).trans (KeepsOthers.alloc _ _)).trans (KeepsOthers.of_grownBy hgrow fun j ob ej hj => ?_)).trans (KeepsOthers.setCell _ _ _)
    obtain ⟨_, cur, hc⟩ := hbl j ej
    rw [hc] at hj; cases hj; rfl
  · have := hb5.size
    have := hgrow.size
    simp at this ⊢
    omega
  · have hjW : j < W.heap.size := by omega
    rw [Below.heap_setCell _ _ _ j (by simpa using fun e => hjs e), hgrow.block j (by have := hb5.size; simp; omega) fun e => by have := (hbl j e.symm).1; omega, (below_alloc w5 o).block j (by have := hb5.size; omega)]
    exact hb5.block j hjW
  · have hb8 : Below base W w8 := (((hb5.mono h3).alloc (by have := hb5.size; omega) o)).grown hgrow (by have := hb5.size; simp; omega) fun r hr => Nat.le_trans h2 (hbl r hr).1
    exact hb.trans (hb8.setCell (p := ⟨B, 0, none⟩) h1 _)
end Go.Proofs.YtfakhapljjbbnaaDoor
