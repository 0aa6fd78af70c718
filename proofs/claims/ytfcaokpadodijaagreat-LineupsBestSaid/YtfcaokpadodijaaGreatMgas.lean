/- Placing one more: who is placed already may be moved. -/
import Derived.Test.YtfcaokpadodijaaGreatMgae
import Derived.Test.YtfcaokpadodijaaGreatMgap
import Derived.Test.YtfcaokpadodijaaGreatMgac
namespace Go.Proofs.YtfcaokpadodijaaGreat
open Go.RowKit Mat

/-- The memory of a search: asked in A, taken in T, holders in H. -/
structure PMem (n P A T H : Nat) (s : PSt) (w : World) : Prop where
 a : ∃ cur, w.heap[A]? = some (.cells cur 4 (0, 0)) ∧ ∀ p, p < P → cur[p]? = some (.bool (s.asked p))
 t : ∃ cur, w.heap[T]? = some (.cells cur 4 (0, 0)) ∧ ∀ p, p < P → cur[p]? = some (.bool (s.taken p))
 h : ∃ cur, w.heap[H]? = some (.cells cur 3 (0, 0)) ∧ ∀ p, p < P → cur[p]? = some (.int .i64 (s.hold p : Int))
 low : ∀ p, p < P → s.taken p = true → s.hold p < n
 ne : A ≠ T ∧ A ≠ H ∧ T ≠ H
theorem PMem.below {n P A T H : Nat} {s : PSt} {w w' : World} (m : PMem n P A T H s w) (hb : Below w.heap.size w w') : PMem n P A T H s w' := by
 obtain ⟨⟨ca, a1, a2⟩, ⟨ct, t1, t2⟩, ⟨ch, h1, h2⟩, low, ne⟩ := m
 exact ⟨⟨ca, cells_later a1 hb, a2⟩, ⟨ct, cells_later t1 hb, t2⟩, ⟨ch, cells_later h1 hb, h2⟩, low, ne⟩
theorem PMem.drew {n P A T H : Nat} {s : PSt} {w : World} (m : PMem n P A T H s w) : PMem n P A T H s w.drew := ⟨m.a, m.t, m.h, m.low, m.ne⟩
theorem set_cells {w : World} {g T o : Nat} {cur : Array Value} (h : w.heap[g]? = some (.cells cur T (0, 0))) (u : Value) : (w.setCell ⟨g, o, none⟩ u).heap[g]? = some (.cells (cur.setIfInBounds o u) T (0, 0)) := by simp [World.setCell, Array.getElem?_modify, h]
theorem set_get {cur : Array Value} {o p : Nat} {u v : Value} (h : cur[p]? = some v) : (cur.setIfInBounds o u)[p]? = some (if o = p then u else v) := by
 have hp : p < cur.size := (Array.getElem?_eq_some_iff.1 h).1
 rw [Array.getElem?_setIfInBounds]
 split
 ·rename_i e; subst e; simp [hp]
 ·exact h
theorem PMem.ask {n P A T H p : Nat} {s : PSt} {w : World} (m : PMem n P A T H s w) : PMem n P A T H (s.ask p) (w.setCell ⟨A, p, none⟩ (.bool true)) := by
 obtain ⟨⟨ca, a1, a2⟩, ⟨ct, t1, t2⟩, ⟨ch, h1, h2⟩, low, n1, n2, n3⟩ := m
 refine ⟨⟨_, set_cells a1 _, fun q hq => ?_⟩, ⟨ct, heap_far t1 (Ne.symm n1), t2⟩, ⟨ch, heap_far h1 (Ne.symm n2), h2⟩, low, n1, n2, n3⟩
 rw [set_get (a2 q hq)]
 unfold PSt.ask
 by_cases e : p = q
 ·subst e; simp
 ·simp [e, Ne.symm e]
theorem PMem.put {n P A T H p who : Nat} {s : PSt} {w : World} (m : PMem n P A T H s w) (hw : who < n) : PMem n P A T H (s.put p who) ((w.setCell ⟨T, p, none⟩ (.bool true)).setCell ⟨H, p, none⟩ (.int .i64 (who : Int))) := by
 obtain ⟨⟨ca, a1, a2⟩, ⟨ct, t1, t2⟩, ⟨ch, h1, h2⟩, low, n1, n2, n3⟩ := m
 refine ⟨⟨ca, heap_far (heap_far a1 n1) n2, a2⟩, ⟨_, heap_far (set_cells t1 _) n3, fun q hq => ?_⟩, ⟨_, set_cells (heap_far h1 (Ne.symm n3)) _, fun q hq => ?_⟩, fun q hq ht => ?_, n1, n2, n3⟩
 ·rw [set_get (t2 q hq)]
  unfold PSt.put
  by_cases e : p = q
  ·subst e; simp
  ·simp [e, Ne.symm e]
 ·rw [set_get (h2 q hq)]
  unfold PSt.put
  by_cases e : p = q
  ·subst e; simp
  ·simp [e, Ne.symm e]
 ·unfold PSt.put at ht ⊢
  by_cases e : q = p
  ·subst e; simpa using hw
  ·simp [e] at ht ⊢; exact low q hq ht
theorem PMem.asked {n P A T H p : Nat} {s : PSt} {w : World} (m : PMem n P A T H s w) (hp : p < P) : w.cell? ⟨A, p, none⟩ = some (.bool (s.asked p)) ∧ w.frozen? ⟨A, p, none⟩ = false := by
 obtain ⟨⟨ca, a1, a2⟩, _⟩ := m
 exact ⟨cell_at a1 p (a2 p hp), free_of a1 p⟩
theorem PMem.takenc {n P A T H p : Nat} {s : PSt} {w : World} (m : PMem n P A T H s w) (hp : p < P) : w.cell? ⟨T, p, none⟩ = some (.bool (s.taken p)) ∧ w.frozen? ⟨T, p, none⟩ = false := by
 obtain ⟨_, ⟨ca, a1, a2⟩, _⟩ := m
 exact ⟨cell_at a1 p (a2 p hp), free_of a1 p⟩
theorem PMem.holdc {n P A T H p : Nat} {s : PSt} {w : World} (m : PMem n P A T H s w) (hp : p < P) : w.cell? ⟨H, p, none⟩ = some (.int .i64 (s.hold p : Int)) ∧ w.frozen? ⟨H, p, none⟩ = false := by
 obtain ⟨_, _, ⟨ca, a1, a2⟩, _⟩ := m
 exact ⟨cell_at a1 p (a2 p hp), free_of a1 p⟩
theorem PMem.lo {n P A T H lo : Nat} {s : PSt} {w : World} (m : PMem n P A T H s w) (h : lo ≤ A) : lo ≤ w.heap.size := by
 obtain ⟨_, a1, _⟩ := m.a
 have := lt_of_heap a1; omega
/-- Boxes that stay as they are. -/
def Bxs (bs : List (Nat × Obj)) (w : World) : Prop := ∀ b ∈ bs, w.heap[b.1]? = some b.2
theorem Bxs.below {bs : List (Nat × Obj)} {w w' : World} (h : Bxs bs w) (hb : Below w.heap.size w w') : Bxs bs w' := fun b hm => (hb.block _ (lt_of_heap (h b hm))).trans (h b hm)
theorem Bxs.set {bs : List (Nat × Obj)} {w : World} {Y o : Nat} {u : Value} (h : Bxs bs w) (hn : ∀ b ∈ bs, b.1 ≠ Y) : Bxs bs (w.setCell ⟨Y, o, none⟩ u) := fun b hm => by
 have := h b hm
 rw [← this]
 exact Below.heap_setCell w _ _ _ (by simpa using hn b hm)
theorem Bxs.drew {bs : List (Nat × Obj)} {w : World} (h : Bxs bs w) : Bxs bs w.drew := h
theorem scan_skip {rec : Nat → PSt → Bool × PSt} {fits : Nat → Nat → Bool} {who p : Nat} {ps : List Nat} {s : PSt} (h : (s.asked p || !fits who p) = true) : scan rec fits who (p :: ps) s = scan rec fits who ps s := by rw [scan, if_pos h]
theorem scan_free {rec : Nat → PSt → Bool × PSt} {fits : Nat → Nat → Bool} {who p : Nat} {ps : List Nat} {s : PSt} (h : (s.asked p || !fits who p) = false) (ht : (s.ask p).taken p = false) : scan rec fits who (p :: ps) s = (true, (s.ask p).put p who) := by rw [scan, if_neg (by rw [h]; simp), if_pos (by rw [ht]; rfl)]
theorem scan_move {rec : Nat → PSt → Bool × PSt} {fits : Nat → Nat → Bool} {who p : Nat} {ps : List Nat} {s : PSt} (h : (s.asked p || !fits who p) = false) (ht : (s.ask p).taken p = true) (hr : (rec ((s.ask p).hold p) (s.ask p)).1 = true) : scan rec fits who (p :: ps) s = (true, (rec ((s.ask p).hold p) (s.ask p)).2.put p who) := by rw [scan, if_neg (by rw [h]; simp), if_neg (by rw [ht]; simp), if_pos hr]
theorem scan_next {rec : Nat → PSt → Bool × PSt} {fits : Nat → Nat → Bool} {who p : Nat} {ps : List Nat} {s : PSt} (h : (s.asked p || !fits who p) = false) (ht : (s.ask p).taken p = true) (hr : (rec ((s.ask p).hold p) (s.ask p)).1 = false) : scan rec fits who (p :: ps) s = scan rec fits who ps (rec ((s.ask p).hold p) (s.ask p)).2 := by rw [scan, if_neg (by rw [h]; simp), if_neg (by rw [ht]; simp), if_neg (by rw [hr]; simp)]
theorem range_cons' {k P : Nat} (h : k < P) : List.range' k (P - k) = k :: List.range' (k + 1) (P - (k + 1)) := by
 rw [show P - k = (P - (k + 1)) + 1 by omega, List.range'_succ]
def o123_6 : Array Go.Oper := #[
 ⟨some 28, .load 152 (.tmp 4), 152, "best.go:65", #[], none⟩,
 ⟨some 29, .move (.tmp 9), 3, "best.go:65", #[], none⟩,
 ⟨some 30, .indexAddr 152 (.tmp 28) (.tmp 29), 0, "best.go:65", #[⟨0, .data⟩, ⟨1, .data⟩], none⟩,
 ⟨some 31, .load 4 (.tmp 30), 4, "best.go:65", #[⟨2, .data⟩], none⟩,
 ⟨some 32, .unOp .not 4 (.tmp 31), 4, "best.go:65", #[⟨3, .data⟩], none⟩,
 ⟨some 33, .move (.tmp 32), 4, "best.go:65", #[⟨4, .data⟩], none⟩,
 ⟨some 34, .load 69 (.tmp 5), 69, "best.go:65", #[⟨5, .guard⟩], some (5, false)⟩,
 ⟨some 35, .load 22 (.tmp 6), 22, "best.go:65", #[⟨5, .guard⟩], some (5, false)⟩,
 ⟨some 36, .move (.tmp 9), 3, "best.go:65", #[⟨5, .guard⟩], some (5, false)⟩,
 ⟨some 37, .indexAddr 22 (.tmp 35) (.tmp 36), 0, "best.go:65", #[⟨7, .data⟩, ⟨8, .data⟩, ⟨5, .guard⟩], some (5, false)⟩,
 ⟨some 38, .load 3 (.tmp 37), 3, "best.go:65", #[⟨9, .data⟩, ⟨5, .guard⟩], some (5, false)⟩,
 ⟨some 39, .call { callee := .value (.tmp 34), args := #[.tmp 38], argTypes := #[3] }, 4, "best.go:65", #[⟨6, .data⟩, ⟨10, .data⟩, ⟨5, .chain⟩, ⟨5, .guard⟩], some (5, false)⟩,
 ⟨some 40, .pick (.tmp 33) (.const (.bool true)) (.tmp 39), 4, "best.go:65", #[⟨5, .data⟩, ⟨11, .data⟩], none⟩]
theorem o123_6_0 : o123_6[0]? = some (⟨some 28, .load 152 (.tmp 4), 152, "best.go:65", #[], none⟩ : Go.Oper) := rfl
theorem o123_6_1 : o123_6[1]? = some (⟨some 29, .move (.tmp 9), 3, "best.go:65", #[], none⟩ : Go.Oper) := rfl
theorem o123_6_2 : o123_6[2]? = some (⟨some 30, .indexAddr 152 (.tmp 28) (.tmp 29), 0, "best.go:65", #[⟨0, .data⟩, ⟨1, .data⟩], none⟩ : Go.Oper) := rfl
theorem o123_6_3 : o123_6[3]? = some (⟨some 31, .load 4 (.tmp 30), 4, "best.go:65", #[⟨2, .data⟩], none⟩ : Go.Oper) := rfl
theorem o123_6_4 : o123_6[4]? = some (⟨some 32, .unOp .not 4 (.tmp 31), 4, "best.go:65", #[⟨3, .data⟩], none⟩ : Go.Oper) := rfl
theorem o123_6_5 : o123_6[5]? = some (⟨some 33, .move (.tmp 32), 4, "best.go:65", #[⟨4, .data⟩], none⟩ : Go.Oper) := rfl
theorem o123_6_6 : o123_6[6]? = some (⟨some 34, .load 69 (.tmp 5), 69, "best.go:65", #[⟨5, .guard⟩], some (5, false)⟩ : Go.Oper) := rfl
theorem o123_6_7 : o123_6[7]? = some (⟨some 35, .load 22 (.tmp 6), 22, "best.go:65", #[⟨5, .guard⟩], some (5, false)⟩ : Go.Oper) := rfl
theorem o123_6_8 : o123_6[8]? = some (⟨some 36, .move (.tmp 9), 3, "best.go:65", #[⟨5, .guard⟩], some (5, false)⟩ : Go.Oper) := rfl
theorem o123_6_9 : o123_6[9]? = some (⟨some 37, .indexAddr 22 (.tmp 35) (.tmp 36), 0, "best.go:65", #[⟨7, .data⟩, ⟨8, .data⟩, ⟨5, .guard⟩], some (5, false)⟩ : Go.Oper) := rfl
theorem o123_6_10 : o123_6[10]? = some (⟨some 38, .load 3 (.tmp 37), 3, "best.go:65", #[⟨9, .data⟩, ⟨5, .guard⟩], some (5, false)⟩ : Go.Oper) := rfl
theorem o123_6_11 : o123_6[11]? = some (⟨some 39, .call { callee := .value (.tmp 34), args := #[.tmp 38], argTypes := #[3] }, 4, "best.go:65", #[⟨6, .data⟩, ⟨10, .data⟩, ⟨5, .chain⟩, ⟨5, .guard⟩], some (5, false)⟩ : Go.Oper) := rfl
theorem o123_6_12 : o123_6[12]? = some (⟨some 40, .pick (.tmp 33) (.const (.bool true)) (.tmp 39), 4, "best.go:65", #[⟨5, .data⟩, ⟨11, .data⟩], none⟩ : Go.Oper) := rfl
theorem o123_6_ns : Go.Region.noSelect o123_6 = true := by kernel_rfl
def o123_7 : Array Go.Oper := #[
 ⟨some 41, .load 152 (.tmp 4), 152, "best.go:66", #[], none⟩,
 ⟨some 42, .move (.tmp 9), 3, "best.go:66", #[], none⟩,
 ⟨some 43, .load 22 (.tmp 6), 22, "best.go:66", #[], none⟩,
 ⟨some 44, .move (.tmp 9), 3, "best.go:66", #[⟨6, .gcOnly .lateStores⟩], none⟩,
 ⟨some 45, .move (.tmp 0), 3, "best.go:66", #[⟨6, .gcOnly .lateStores⟩], none⟩,
 ⟨some 46, .indexAddr 152 (.tmp 41) (.tmp 42), 0, "best.go:66", #[⟨0, .data⟩, ⟨1, .data⟩, ⟨0, .phase⟩, ⟨1, .phase⟩, ⟨2, .textOnly .inlinedCapture⟩, ⟨3, .textOnly .lateStores⟩, ⟨4, .textOnly .lateStores⟩], none⟩,
 ⟨none, .store 4 (.tmp 46) (.const (.bool true)), 0, "best.go:66", #[⟨5, .data⟩, ⟨0, .phase⟩, ⟨1, .phase⟩, ⟨2, .textOnly .inlinedCapture⟩, ⟨3, .textOnly .lateStores⟩, ⟨4, .textOnly .lateStores⟩], none⟩,
 ⟨some 47, .indexAddr 22 (.tmp 43) (.tmp 44), 0, "best.go:66", #[⟨2, .data⟩, ⟨3, .data⟩, ⟨0, .phase⟩, ⟨1, .phase⟩, ⟨2, .phase⟩, ⟨3, .phase⟩, ⟨4, .phase⟩, ⟨5, .phase⟩, ⟨6, .phase⟩], none⟩,
 ⟨none, .store 3 (.tmp 47) (.tmp 45), 0, "best.go:66", #[⟨7, .data⟩, ⟨4, .data⟩, ⟨6, .chain⟩, ⟨0, .phase⟩, ⟨1, .phase⟩, ⟨2, .phase⟩, ⟨3, .phase⟩, ⟨4, .phase⟩, ⟨5, .phase⟩, ⟨6, .phase⟩], none⟩]
theorem o123_7_0 : o123_7[0]? = some (⟨some 41, .load 152 (.tmp 4), 152, "best.go:66", #[], none⟩ : Go.Oper) := rfl
theorem o123_7_1 : o123_7[1]? = some (⟨some 42, .move (.tmp 9), 3, "best.go:66", #[], none⟩ : Go.Oper) := rfl
theorem o123_7_2 : o123_7[2]? = some (⟨some 43, .load 22 (.tmp 6), 22, "best.go:66", #[], none⟩ : Go.Oper) := rfl
theorem o123_7_3 : o123_7[3]? = some (⟨some 44, .move (.tmp 9), 3, "best.go:66", #[⟨6, .gcOnly .lateStores⟩], none⟩ : Go.Oper) := rfl
theorem o123_7_4 : o123_7[4]? = some (⟨some 45, .move (.tmp 0), 3, "best.go:66", #[⟨6, .gcOnly .lateStores⟩], none⟩ : Go.Oper) := rfl
theorem o123_7_5 : o123_7[5]? = some (⟨some 46, .indexAddr 152 (.tmp 41) (.tmp 42), 0, "best.go:66", #[⟨0, .data⟩, ⟨1, .data⟩, ⟨0, .phase⟩, ⟨1, .phase⟩, ⟨2, .textOnly .inlinedCapture⟩, ⟨3, .textOnly .lateStores⟩, ⟨4, .textOnly .lateStores⟩], none⟩ : Go.Oper) := rfl
theorem o123_7_6 : o123_7[6]? = some (⟨none, .store 4 (.tmp 46) (.const (.bool true)), 0, "best.go:66", #[⟨5, .data⟩, ⟨0, .phase⟩, ⟨1, .phase⟩, ⟨2, .textOnly .inlinedCapture⟩, ⟨3, .textOnly .lateStores⟩, ⟨4, .textOnly .lateStores⟩], none⟩ : Go.Oper) := rfl
theorem o123_7_7 : o123_7[7]? = some (⟨some 47, .indexAddr 22 (.tmp 43) (.tmp 44), 0, "best.go:66", #[⟨2, .data⟩, ⟨3, .data⟩, ⟨0, .phase⟩, ⟨1, .phase⟩, ⟨2, .phase⟩, ⟨3, .phase⟩, ⟨4, .phase⟩, ⟨5, .phase⟩, ⟨6, .phase⟩], none⟩ : Go.Oper) := rfl
theorem o123_7_8 : o123_7[8]? = some (⟨none, .store 3 (.tmp 47) (.tmp 45), 0, "best.go:66", #[⟨7, .data⟩, ⟨4, .data⟩, ⟨6, .chain⟩, ⟨0, .phase⟩, ⟨1, .phase⟩, ⟨2, .phase⟩, ⟨3, .phase⟩, ⟨4, .phase⟩, ⟨5, .phase⟩, ⟨6, .phase⟩], none⟩ : Go.Oper) := rfl
/-- What a search answers. -/
def SetV (fits : Nat → Nat → Bool) (n P A T H lo f who : Nat) (bs : List (Nat × Obj)) (s : PSt) (w0 : World) (e : Ending) (w' : World) : Prop :=
 e = .returned (.bool (Mat.settle fits P f who s).1) ∧ PMem n P A T H (Mat.settle fits P f who s).2 w' ∧ Bxs bs w' ∧ Below lo w0 w'
set_option maxRecDepth 100000 in
set_option maxHeartbeats 16000000 in
theorem settle_calls (fits : Nat → Nat → Bool) (n P A T H lo X2 X3 X5 X6 X7 X8 aa ta ha gf : Nat) (caps : Array Value) (w0 : World) (hP : P ≤ 1000) (hn : n ≤ 1000000) (hlo : lo ≤ A ∧ lo ≤ T ∧ lo ≤ H)
  (hX : ∀ X ∈ [X2, X3, X5, X6, X7, X8], X ≠ A ∧ X ≠ T ∧ X ≠ H)
  (hfits : ∀ (W : World) (a p : Nat), a < n → p < P → Below lo w0 W → Calls Tryz.prog gf (#[.int .i64 (a : Int), .int .i64 (p : Int)] ++ caps) W (BoolIs (fits a p) W))
  (egf : ∀ args w, (callFunc gf args).run Tryz.prog w = .ok (.enter gf args) w) (egs : ∀ args w, (callFunc 123 args).run Tryz.prog w = .ok (.enter 123 args) w) (bs ex : List (Nat × Obj)) (hex : ∀ b ∈ ex, b.1 ≠ A ∧ b.1 ≠ T ∧ b.1 ≠ H)
  (hbs : bs = [(X2, .cells #[.int .i64 (P : Int)] 3 (0, 0)), (X7, .cells #[.slice (some ⟨A, 0, none⟩) P aa] 152 (0, 0)), (X3, .cells #[.func (.func gf) #[] caps] 123 (0, 0)), (X5, .cells #[.slice (some ⟨T, 0, none⟩) P ta] 152 (0, 0)), (X6, .cells #[.slice (some ⟨H, 0, none⟩) P ha] 22 (0, 0)),
   (X8, .cells #[.func (.func 123) #[] #[.pointer (some ⟨X2, 0, none⟩), .pointer (some ⟨X7, 0, none⟩), .pointer (some ⟨X3, 0, none⟩), .pointer (some ⟨X5, 0, none⟩), .pointer (some ⟨X8, 0, none⟩), .pointer (some ⟨X6, 0, none⟩)]] 69 (0, 0))] ++ ex) :
  ∀ (f who : Nat) (s : PSt) (w : World), who < n → unasked P s < f → PMem n P A T H s w → Bxs bs w → Below lo w0 w →
   Calls Tryz.prog 123 #[.int .i64 (who : Int), .pointer (some ⟨X2, 0, none⟩), .pointer (some ⟨X7, 0, none⟩), .pointer (some ⟨X3, 0, none⟩), .pointer (some ⟨X5, 0, none⟩), .pointer (some ⟨X8, 0, none⟩), .pointer (some ⟨X6, 0, none⟩)] w (SetV fits n P A T H lo f who bs s w0) := by
 have HX := Lib.hid hX
 have Hf := Lib.hid hfits
 have Hex := Lib.hid hex
 clear hX hfits hex
 intro f
 induction f with
 | zero => intro who s w _ h; omega
 | succ f ih =>
  have IH := Lib.hid ih; clear ih; intro who s w hwho hu hM hB hbw
  have HBX := Lib.hid (show ∀ w' : World, Bxs bs w' → w'.cell? ⟨X2, 0, none⟩ = some (.int .i64 (P : Int)) ∧ w'.cell? ⟨X7, 0, none⟩ = some (.slice (some ⟨A, 0, none⟩) P aa) ∧ w'.cell? ⟨X3, 0, none⟩ = some (.func (.func gf) #[] caps) ∧ w'.cell? ⟨X5, 0, none⟩ = some (.slice (some ⟨T, 0, none⟩) P ta) ∧ w'.cell? ⟨X6, 0, none⟩ = some (.slice (some ⟨H, 0, none⟩) P ha) ∧ w'.cell? ⟨X8, 0, none⟩ = some (.func (.func 123) #[] #[.pointer (some ⟨X2, 0, none⟩), .pointer (some ⟨X7, 0, none⟩), .pointer (some ⟨X3, 0, none⟩), .pointer (some ⟨X5, 0, none⟩), .pointer (some ⟨X8, 0, none⟩), .pointer (some ⟨X6, 0, none⟩)]) from fun w' h => by
   rw [hbs] at h
   exact ⟨cell_at (h _ (.head _)) 0 rfl, cell_at (h _ (.tail _ (.head _))) 0 rfl, cell_at (h _ (.tail _ (.tail _ (.head _)))) 0 rfl, cell_at (h _ (.tail _ (.tail _ (.tail _ (.head _))))) 0 rfl, cell_at (h _ (.tail _ (.tail _ (.tail _ (.tail _ (.head _)))))) 0 rfl, cell_at (h _ (.tail _ (.tail _ (.tail _ (.tail _ (.tail _ (.head _))))))) 0 rfl⟩)
  have HBN := Lib.hid (show ∀ b ∈ bs, b.1 ≠ A ∧ b.1 ≠ T ∧ b.1 ≠ H from fun b hb => by
   rw [hbs] at hb
   simp only [List.cons_append, List.nil_append, List.mem_cons] at hb
   rcases hb with rfl | rfl | rfl | rfl | rfl | rfl | hb
   ·exact HX.out _ (by simp)
   ·exact HX.out _ (by simp)
   ·exact HX.out _ (by simp)
   ·exact HX.out _ (by simp)
   ·exact HX.out _ (by simp)
   ·exact HX.out _ (by simp)
   ·exact Hex.out b hb)
  have HR := Lib.hid (show Mat.settle fits P (f + 1) who s = scan (Mat.settle fits P f) fits who (List.range' 0 (P - 0)) s by rw [Mat.settle, Nat.sub_zero, List.range_eq_range'])
  unfold SetV; generalize Mat.settle fits P (f + 1) who s = R at HR ⊢
  have HM := Lib.hid hM; have HB := Lib.hid hB; obtain ⟨x2, -⟩ := HBX.out _ hB; have Hbs := Lib.hid hbs; clear hM hB hbs; obtain ⟨hlA, hlT, hlH⟩ := hlo; go_enter Tryz.func123, Tryz.ntmps123; go_wp2_with fail
  clear x2; go_loopw [11] (fun i wr => ∃ (k : Nat) (s' : PSt), k ≤ P ∧ i = .int .i64 k ∧ Hid (R = scan (Mat.settle fits P f) fits who (List.range' k (P - k)) s') ∧ Hid (unasked P s' ≤ f) ∧ Hid (PMem n P A T H s' wr) ∧ Hid (Bxs bs wr) ∧ Below lo w0 wr) (fun i _ => P - (intOf i).toNat)
  case atStart => exact ⟨0, s, Nat.zero_le _, rfl, HR, Lib.hid (by omega), HM, HB, hbw⟩
  case round =>
   clear HM HB hbw hu HR; obtain ⟨k, s', hk, rfl, HR, Hu, HM, HB, hb⟩ := hrel; by_cases hlt : k < P
   ·have hlt' : (k : Int) < (P : Int) := by omega
    obtain ⟨x2, x7, x3, x5, x6, x8⟩ := HBX.out _ HB.out; obtain ⟨a0, fa⟩ := HM.out.asked hlt; have HR := Lib.hid (show R = scan (Mat.settle fits P f) fits who (k :: List.range' (k + 1) (P - (k + 1))) s' by rw [HR.out, range_cons' hlt])
    cases hask : s'.asked k
    ·rw [hask] at a0
     clear x2 x5 x6 x8; go_wp2_with fail
     refine (Hf.out _ who k hwho hlt hb).mono ?_; rintro e w1 ⟨rfl, hb1⟩; have HM0 := HM; have HM := Lib.hid (HM.out.below hb1); have HB := Lib.hid (HB.out.below hb1); have hb := hb.trans (hb1.mono (HM0.out.lo hlA)); clear x3 x7 a0 fa hb1 HM0; obtain ⟨x2, x7, x3, x5, x6, x8⟩ := HBX.out _ HB.out; obtain ⟨a0, fa⟩ := HM.out.asked hlt; rw [hask] at a0
     cases hfit : fits who k
     ·have HR := Lib.hid (HR.out.trans (scan_skip (by rw [hask, hfit]; rfl)))
      clear hask hfit x2 x7 x3 x5 x6 x8 a0 fa; go_wp2_with fail
      go_roundw
      case rel => exact ⟨k + 1, s', by omega, by go_num, HR, Hu, HM, HB, hb⟩
      case measure => simp [intOf]; omega
     ·have Hgo := Lib.hid (show (s'.asked k || !fits who k) = false by rw [hask, hfit]; rfl)
      have Hu' := Lib.hid (show unasked P (s'.ask k) < f by have := unasked_ask hlt hask; have := Hu.out; omega)
      have HMa := Lib.hid (HM.out.ask (p := k)); have HBa := Lib.hid (HB.out.set (Y := A) (o := k) (u := .bool true) (fun b hb => (HBN.out b hb).1))
      have hba := below_set (o := k) hb hlA (.bool true); clear hask hfit HM HB hb Hu x2 x3 x5 x6 x8; go_upto_region 6 with fail
      generalize hs2 : s'.ask k = s2 at HMa Hu'
      have Hs2 := Lib.hid hs2; obtain ⟨w2, hw2⟩ : ∃ w2, w2 = w1.setCell ⟨A, k, none⟩ (.bool true) := ⟨_, rfl⟩
      rw [← hw2] at HMa HBa hba ⊢
      clear hw2 hs2 x7 a0 fa; obtain ⟨x2, x7, x3, x5, x6, x8⟩ := HBX.out _ HBa.out; obtain ⟨t0, ft⟩ := HMa.out.takenc hlt; obtain ⟨h0, fh⟩ := HMa.out.holdc hlt; cases htk : s2.taken k
      ·rw [htk] at t0
       have hR : R = (true, s2.put k who) := by rw [HR.out, scan_free Hgo.out (by rw [Hs2.out]; exact htk), Hs2.out]
       subst hR; have HS := Lib.hid (show ∀ w', Below w2.heap.size w2 w' → (Below w2.heap.size w2 w' ∧ w'.cell? ⟨X5, 0, none⟩ = some (.slice (some ⟨T, 0, none⟩) P ta) ∧ w'.cell? ⟨T, k, none⟩ = some (.bool false)) from fun w' hb => ⟨hb, below_cell hb x5, below_cell hb t0⟩)
       have hb0 := (Below.refl w2.heap.size w2).drew; clear x2 x7 x3 x5 x6 x8 t0 ft h0 fh HR Hu' Hs2 htk Hgo; show Code.wp _ (Code.region 6 o123_6 true) _ _ _
       refine region_start 13 (fun w' => Below w2.heap.size w2 w' ∧ w'.cell? ⟨X5, 0, none⟩ = some (.slice (some ⟨T, 0, none⟩) P ta) ∧ w'.cell? ⟨T, k, none⟩ = some (.bool false)) (by kernel_rfl) rfl ?_ (fun hHeld => ?_)
       ·(exact HS.out _ (by first | assumption | exact hHeld.1))
       refine take_to 0 28 (bQ 13 1) (v := ?_) o123_6_0 rfl o123_6_ns (by kernel_rfl) (by kernel_rfl) (fun _ _ _ h => h) (by rfl) ?y0f (by assumption) ?_
       case y0f => intro w h; (try dsimp only at h); go_simp; try with_reducible rfl
       simp only [sE0, sE1]; refine take_to 1 29 (bQ 13 3) (v := ?_) o123_6_1 rfl o123_6_ns (by kernel_rfl) (by kernel_rfl) (fun _ _ _ h => h) (by rfl) ?y1f (by assumption) ?_
       case y1f => intro w h; (try dsimp only at h); go_simp; try with_reducible rfl
       simp only [sE0, sE1]; refine take_to 2 30 (bQ 13 7) (v := ?_) o123_6_2 rfl o123_6_ns (by kernel_rfl) (by kernel_rfl) (fun _ _ _ h => h) (by rfl) ?y2f (by assumption) ?_
       case y2f => intro w h; (try dsimp only at h); go_simp; try with_reducible rfl
       simp only [sE0, sE1]; refine take_to 3 31 (bQ 13 15) (v := ?_) o123_6_3 rfl o123_6_ns (by kernel_rfl) (by kernel_rfl) (fun _ _ _ h => h) (by rfl) ?y3f (by assumption) ?_
       case y3f => intro w h; (try dsimp only at h); go_simp; try with_reducible rfl
       simp only [sE0, sE1]; refine take_to 4 32 (bQ 13 31) (v := ?_) o123_6_4 rfl o123_6_ns (by kernel_rfl) (by kernel_rfl) (fun _ _ _ h => h) (by rfl) ?y4f (by assumption) ?_
       case y4f => intro w h; (try dsimp only at h); go_simp; try with_reducible rfl
       simp only [sE0, sE1]; refine take_to 5 33 (bQ 13 63) (v := ?_) o123_6_5 rfl o123_6_ns (by kernel_rfl) (by kernel_rfl) (fun _ _ _ h => h) (by rfl) ?y5f (by assumption) ?_
       case y5f => intro w h; (try dsimp only at h); go_simp; try with_reducible rfl
       simp only [sE0, sE1]; refine skip_to 6 34 (bQ 13 127) o123_6_6 rfl o123_6_ns (by kernel_rfl) (by kernel_rfl) (fun _ _ _ h => h) (by rfl) (by assumption) ?_
       simp only [sE0, sE1]; refine skip_to 7 35 (bQ 13 255) o123_6_7 rfl o123_6_ns (by kernel_rfl) (by kernel_rfl) (fun _ _ _ h => h) (by rfl) (by assumption) ?_
       simp only [sE0, sE1]; refine skip_to 8 36 (bQ 13 511) o123_6_8 rfl o123_6_ns (by kernel_rfl) (by kernel_rfl) (fun _ _ _ h => h) (by rfl) (by assumption) ?_
       simp only [sE0, sE1]; refine skip_to 9 37 (bQ 13 1023) o123_6_9 rfl o123_6_ns (by kernel_rfl) (by kernel_rfl) (fun _ _ _ h => h) (by rfl) (by assumption) ?_
       simp only [sE0, sE1]; refine skip_to 10 38 (bQ 13 2047) o123_6_10 rfl o123_6_ns (by kernel_rfl) (by kernel_rfl) (fun _ _ _ h => h) (by rfl) (by assumption) ?_
       simp only [sE0, sE1]; refine skip_to 11 39 (bQ 13 4095) o123_6_11 rfl o123_6_ns (by kernel_rfl) (by kernel_rfl) (fun _ _ _ h => h) (by rfl) (by assumption) ?_
       simp only [sE0, sE1]; refine take_to 12 40 (bQ 13 8191) (v := ?_) o123_6_12 rfl o123_6_ns (by kernel_rfl) (by kernel_rfl) (fun _ _ _ h => h) (by rfl) ?y12f (by assumption) ?_
       case y12f => intro w h; (try dsimp only at h); go_simp; try with_reducible rfl
       simp only [sE0, sE1]; refine wpAnyH_done (by kernel_rfl) ?_ _
       clear hHeld hb0 HS; replace HMa := Lib.hid HMa.out.drew; replace HBa := Lib.hid HBa.out.drew; replace hba := hba.drew; generalize w2.drew = w3 at HMa HBa hba ⊢
       go_upto_region 7 with fail
       replace HMa := Lib.hid HMa.out.drew; replace HBa := Lib.hid HBa.out.drew; replace hba := hba.drew; show Code.wp _ (Code.region 7 o123_7 true) _ _ _
       refine regionC_start 9 (fun w' => w'.cell? ⟨X5, 0, none⟩ = some (.slice (some ⟨T, 0, none⟩) P ta) ∧ w'.cell? ⟨X6, 0, none⟩ = some (.slice (some ⟨H, 0, none⟩) P ha)) (fun j => [0, 2, 5, 6].contains j) (by kernel_rfl) rfl ?_
       generalize w3.drew = wz at HMa HBa hba ⊢
       refine takeC 1 42 (v := ?_) o123_7_1 rfl (by kernel_rfl) (by kernel_rfl) (by kernel_rfl) (by rfl) (fun _ _ _ h => h) (by rfl) ?y1_1 ?_
       case y1_1 => intro w; go_simp; try with_reducible rfl
       simp only [sE0, sE1]; refine takeC 3 44 (v := ?_) o123_7_3 rfl (by kernel_rfl) (by kernel_rfl) (by kernel_rfl) (by rfl) (fun _ _ _ h => h) (by rfl) ?y3_2 ?_
       case y3_2 => intro w; go_simp; try with_reducible rfl
       simp only [sE0, sE1]; refine takeC 4 45 (v := ?_) o123_7_4 rfl (by kernel_rfl) (by kernel_rfl) (by kernel_rfl) (by rfl) (fun _ _ _ h => h) (by rfl) ?y4_3 ?_
       case y4_3 => intro w; go_simp; try with_reducible rfl
       simp only [sE0, sE1]; refine loadC 0 41 (v := ?_) o123_7_0 rfl (by kernel_rfl) (by kernel_rfl) (by kernel_rfl) (by kernel_rfl) (fun _ _ _ h => h) (by rfl) ?y0_4 (by exact ⟨(HBX.out _ HBa.out).2.2.2.1, (HBX.out _ HBa.out).2.2.2.2.1⟩) ?_
       case y0_4 => intro w h; (try dsimp only at h); go_simp; try with_reducible rfl
       simp only [sE0, sE1]; refine loadC 2 43 (v := ?_) o123_7_2 rfl (by kernel_rfl) (by kernel_rfl) (by kernel_rfl) (by kernel_rfl) (fun _ _ _ h => h) (by rfl) ?y2_5 (by exact ⟨(HBX.out _ HBa.out).2.2.2.1, (HBX.out _ HBa.out).2.2.2.2.1⟩) ?_
       case y2_5 => intro w h; (try dsimp only at h); go_simp; try with_reducible rfl
       simp only [sE0, sE1]; refine loadC 5 46 (v := ?_) o123_7_5 rfl (by kernel_rfl) (by kernel_rfl) (by kernel_rfl) (by kernel_rfl) (fun _ _ _ h => h) (by rfl) ?y5_6 (by exact ⟨(HBX.out _ HBa.out).2.2.2.1, (HBX.out _ HBa.out).2.2.2.2.1⟩) ?_
       case y5_6 => intro w h; (try dsimp only at h); go_simp; try with_reducible rfl
       simp only [sE0, sE1]; refine readyC (rs := [6]) (by kernel_rfl) (by simp) (each_cons (runC o123_7_6 (by rfl) (fun K hK => ?_)) each_nil)
       obtain ⟨t1, ft1⟩ := HMa.out.takenc hlt; go_simp; replace HBa := Lib.hid (HBa.out.set (Y := T) (o := k) (u := .bool true) (fun b hb => (HBN.out b hb).2.1))
       replace hba := below_set (o := k) hba hlT (.bool true); clear t1 ft1; refine hK.out _ _ (fun _ => ?_) ?_
       ·(exact ⟨(HBX.out _ HBa.out).2.2.2.1, (HBX.out _ HBa.out).2.2.2.2.1⟩)
       clear hK K; try simp only [sEt, sE0, sE1]
       refine takeC 7 47 (v := ?_) o123_7_7 rfl (by kernel_rfl) (by kernel_rfl) (by kernel_rfl) (by rfl) (fun _ _ _ h => h) (by rfl) ?y7_7 ?_
       case y7_7 => intro w; go_simp; try with_reducible rfl
       simp only [sE0, sE1]; refine readyC (rs := [8]) (by kernel_rfl) (by simp) (each_cons (runC o123_7_8 (by rfl) (fun K hK => ?_)) each_nil)
       obtain ⟨ch, c1, c2⟩ := HMa.out.h; have h1 := cell_at (heap_far (o := k) (u := .bool true) c1 (Ne.symm HMa.out.ne.2.2)) k (c2 k hlt); have fh1 := free_of (heap_far (o := k) (u := .bool true) c1 (Ne.symm HMa.out.ne.2.2)) k; go_simp; replace HBa := Lib.hid (HBa.out.set (Y := H) (o := k) (u := .int .i64 (who : Int)) (fun b hb => (HBN.out b hb).2.2))
       replace hba := below_set (o := k) hba hlH (.int .i64 (who : Int)); replace HMa := Lib.hid (HMa.out.put (p := k) hwho); clear h1 fh1 c1 c2; refine hK.out _ _ (fun h => absurd h (by decide)) ?_
       clear hK K; try simp only [sEt, sE0, sE1]
       refine doneC (by kernel_rfl) ?_ _
       go_wp2_with fail
       go_ret
       exact ⟨rfl, HMa.out, HBa.out, hba⟩
      ·rw [htk] at t0
       have Htk := Lib.hid htk; have Hlow := Lib.hid (HMa.out.low k hlt htk); replace HMa := Lib.hid HMa.out.drew; replace HBa := Lib.hid HBa.out.drew; replace hba := hba.drew; have hC6 : w2.drew.cell? ⟨X5, 0, none⟩ = _ ∧ w2.drew.cell? ⟨T, k, none⟩ = _ ∧ w2.drew.cell? ⟨X6, 0, none⟩ = _ ∧ w2.drew.cell? ⟨H, k, none⟩ = _ ∧ w2.drew.cell? ⟨X8, 0, none⟩ = _ := ⟨x5, t0, x6, h0, x8⟩
       clear x2 x7 x3 x5 x6 x8 t0 ft h0 fh htk; show Code.wp _ (Code.region 6 o123_6 true) _ _ _
       refine regionC_start 13 (fun w' => w'.cell? ⟨X5, 0, none⟩ = some (.slice (some ⟨T, 0, none⟩) P ta) ∧ w'.cell? ⟨T, k, none⟩ = some (.bool true) ∧ w'.cell? ⟨X6, 0, none⟩ = some (.slice (some ⟨H, 0, none⟩) P ha) ∧ w'.cell? ⟨H, k, none⟩ = some (.int .i64 (s2.hold k : Int)) ∧ w'.cell? ⟨X8, 0, none⟩ = some (.func (.func 123) #[] #[.pointer (some ⟨X2, 0, none⟩), .pointer (some ⟨X7, 0, none⟩), .pointer (some ⟨X3, 0, none⟩), .pointer (some ⟨X5, 0, none⟩), .pointer (some ⟨X8, 0, none⟩), .pointer (some ⟨X6, 0, none⟩)])) (fun j => [0, 2, 3, 6, 7, 9, 10].contains j) (by kernel_rfl) rfl ?_
       refine takeC 1 29 (v := ?_) o123_6_1 rfl (by kernel_rfl) (by kernel_rfl) (by kernel_rfl) (by rfl) (fun _ _ _ h => h) (by rfl) ?y1_1 ?_
       case y1_1 => intro w; go_simp; try with_reducible rfl
       simp only [sE0, sE1]; refine loadC 0 28 (v := ?_) o123_6_0 rfl (by kernel_rfl) (by kernel_rfl) (by kernel_rfl) (by kernel_rfl) (fun _ _ _ h => h) (by rfl) ?y0_2 (by exact hC6) ?_
       case y0_2 => intro w h; (try dsimp only at h); go_simp; try with_reducible rfl
       simp only [sE0, sE1]; refine loadC 2 30 (v := ?_) o123_6_2 rfl (by kernel_rfl) (by kernel_rfl) (by kernel_rfl) (by kernel_rfl) (fun _ _ _ h => h) (by rfl) ?y2_3 (by exact hC6) ?_
       case y2_3 => intro w h; (try dsimp only at h); go_simp; try with_reducible rfl
       simp only [sE0, sE1]; refine loadC 3 31 (v := ?_) o123_6_3 rfl (by kernel_rfl) (by kernel_rfl) (by kernel_rfl) (by kernel_rfl) (fun _ _ _ h => h) (by rfl) ?y3_4 (by exact hC6) ?_
       case y3_4 => intro w h; (try dsimp only at h); go_simp; try with_reducible rfl
       simp only [sE0, sE1]; refine takeC 4 32 (v := ?_) o123_6_4 rfl (by kernel_rfl) (by kernel_rfl) (by kernel_rfl) (by rfl) (fun _ _ _ h => h) (by rfl) ?y4_5 ?_
       case y4_5 => intro w; go_simp; try with_reducible rfl
       simp only [sE0, sE1]; refine takeC 5 33 (v := ?_) o123_6_5 rfl (by kernel_rfl) (by kernel_rfl) (by kernel_rfl) (by rfl) (fun _ _ _ h => h) (by rfl) ?y5_6 ?_
       case y5_6 => intro w; go_simp; try with_reducible rfl
       simp only [sE0, sE1]; refine takeC 8 36 (v := ?_) o123_6_8 rfl (by kernel_rfl) (by kernel_rfl) (by kernel_rfl) (by rfl) (fun _ _ _ h => h) (by rfl) ?y8_7 ?_
       case y8_7 => intro w; go_simp; try with_reducible rfl
       simp only [sE0, sE1]; refine loadC 6 34 (v := ?_) o123_6_6 rfl (by kernel_rfl) (by kernel_rfl) (by kernel_rfl) (by kernel_rfl) (fun _ _ _ h => h) (by rfl) ?y6_8 (by exact hC6) ?_
       case y6_8 => intro w h; (try dsimp only at h); go_simp; try with_reducible rfl
       simp only [sE0, sE1]; refine loadC 7 35 (v := ?_) o123_6_7 rfl (by kernel_rfl) (by kernel_rfl) (by kernel_rfl) (by kernel_rfl) (fun _ _ _ h => h) (by rfl) ?y7_9 (by exact hC6) ?_
       case y7_9 => intro w h; (try dsimp only at h); go_simp; try with_reducible rfl
       simp only [sE0, sE1]; refine loadC 9 37 (v := ?_) o123_6_9 rfl (by kernel_rfl) (by kernel_rfl) (by kernel_rfl) (by kernel_rfl) (fun _ _ _ h => h) (by rfl) ?y9_10 (by exact hC6) ?_
       case y9_10 => intro w h; (try dsimp only at h); go_simp; try with_reducible rfl
       simp only [sE0, sE1]; refine loadC 10 38 (v := ?_) o123_6_10 rfl (by kernel_rfl) (by kernel_rfl) (by kernel_rfl) (by kernel_rfl) (fun _ _ _ h => h) (by rfl) ?y10_11 (by exact hC6) ?_
       case y10_11 => intro w h; (try dsimp only at h); go_simp; try with_reducible rfl
       simp only [sE0, sE1]; refine readyC (rs := [11]) (by kernel_rfl) (by simp) (each_cons (runC o123_6_11 (by rfl) (fun K hK => ?_)) each_nil)
       go_simp; refine (IH.out (s2.hold k) s2 _ Hlow.out Hu'.out HMa.out HBa.out hba).mono ?_; rintro e w3 ⟨rfl, hM3, hB3, hb3⟩; have HM3 := Lib.hid hM3; have HB3 := Lib.hid hB3; clear hM3 hB3 HMa HBa hba; go_wp2_with fail
       refine hK.out _ _ (fun h => absurd h (by decide)) ?_
       clear hK K; try simp only [Act.put, sEt, sE0, sE1]
       refine takeC 12 40 (v := ?_) o123_6_12 rfl (by kernel_rfl) (by kernel_rfl) (by kernel_rfl) (by rfl) (fun _ _ _ h => h) (by rfl) ?y12_12 ?_
       case y12_12 => intro w; go_simp; try with_reducible rfl
       simp only [sE0, sE1]; refine doneC (by kernel_rfl) ?_ _
       have Hmono := Lib.hid (fun (h : (Mat.settle fits P f (s2.hold k) s2).1 = false) => unasked_mono (P := P) ((settle_told (fits := fits) (P := P) f (s2.hold k) s2 Hu'.out).1 h).mono)
       have Hmv := Lib.hid (fun (h : (Mat.settle fits P f (s2.hold k) s2).1 = true) => (show R = (true, (Mat.settle fits P f (s2.hold k) s2).2.put k who) by
        have := HR.out.trans (scan_move (rec := Mat.settle fits P f) (ps := List.range' (k + 1) (P - (k + 1))) Hgo.out (by rw [Hs2.out]; exact Htk.out) (by rw [Hs2.out]; exact h))
        rw [Hs2.out] at this; exact this))
       have Hnx := Lib.hid (fun (h : (Mat.settle fits P f (s2.hold k) s2).1 = false) => (show R = scan (Mat.settle fits P f) fits who (List.range' (k + 1) (P - (k + 1))) (Mat.settle fits P f (s2.hold k) s2).2 by
        have := HR.out.trans (scan_next (rec := Mat.settle fits P f) (ps := List.range' (k + 1) (P - (k + 1))) Hgo.out (by rw [Hs2.out]; exact Htk.out) (by rw [Hs2.out]; exact h))
        rw [Hs2.out] at this; exact this))
       generalize Mat.settle fits P f (s2.hold k) s2 = r3 at HM3 Hmono Hmv Hnx ⊢
       obtain ⟨rb, s3⟩ := r3; dsimp only at HM3 Hmono Hmv Hnx ⊢
       cases rb
       ·have HR := Lib.hid (Hnx.out rfl)
        have Hu3 := Lib.hid (show unasked P s3 ≤ f by have := Hmono.out rfl; have := Hu'.out; omega)
        clear Hmono Hmv Hnx; go_wp2_with fail
        go_roundw
        case rel => exact ⟨k + 1, s3, by omega, by go_num, HR, Hu3, HM3, HB3, hb3⟩
        case measure => simp [intOf]; omega
       ·have hR := Hmv.out rfl
        subst hR; clear Hmono Hmv Hnx HR; go_upto_region 7 with fail
        replace HM3 := Lib.hid HM3.out.drew; replace HB3 := Lib.hid HB3.out.drew; replace hb3 := hb3.drew; show Code.wp _ (Code.region 7 o123_7 true) _ _ _
        refine regionC_start 9 (fun w' => w'.cell? ⟨X5, 0, none⟩ = some (.slice (some ⟨T, 0, none⟩) P ta) ∧ w'.cell? ⟨X6, 0, none⟩ = some (.slice (some ⟨H, 0, none⟩) P ha)) (fun j => [0, 2, 5, 6].contains j) (by kernel_rfl) rfl ?_
        generalize w3.drew = wz at HM3 HB3 hb3 ⊢
        refine takeC 1 42 (v := ?_) o123_7_1 rfl (by kernel_rfl) (by kernel_rfl) (by kernel_rfl) (by rfl) (fun _ _ _ h => h) (by rfl) ?y1_1 ?_
        case y1_1 => intro w; go_simp; try with_reducible rfl
        simp only [sE0, sE1]; refine takeC 3 44 (v := ?_) o123_7_3 rfl (by kernel_rfl) (by kernel_rfl) (by kernel_rfl) (by rfl) (fun _ _ _ h => h) (by rfl) ?y3_2 ?_
        case y3_2 => intro w; go_simp; try with_reducible rfl
        simp only [sE0, sE1]; refine takeC 4 45 (v := ?_) o123_7_4 rfl (by kernel_rfl) (by kernel_rfl) (by kernel_rfl) (by rfl) (fun _ _ _ h => h) (by rfl) ?y4_3 ?_
        case y4_3 => intro w; go_simp; try with_reducible rfl
        simp only [sE0, sE1]; refine loadC 0 41 (v := ?_) o123_7_0 rfl (by kernel_rfl) (by kernel_rfl) (by kernel_rfl) (by kernel_rfl) (fun _ _ _ h => h) (by rfl) ?y0_4 (by exact ⟨(HBX.out _ HB3.out).2.2.2.1, (HBX.out _ HB3.out).2.2.2.2.1⟩) ?_
        case y0_4 => intro w h; (try dsimp only at h); go_simp; try with_reducible rfl
        simp only [sE0, sE1]; refine loadC 2 43 (v := ?_) o123_7_2 rfl (by kernel_rfl) (by kernel_rfl) (by kernel_rfl) (by kernel_rfl) (fun _ _ _ h => h) (by rfl) ?y2_5 (by exact ⟨(HBX.out _ HB3.out).2.2.2.1, (HBX.out _ HB3.out).2.2.2.2.1⟩) ?_
        case y2_5 => intro w h; (try dsimp only at h); go_simp; try with_reducible rfl
        simp only [sE0, sE1]; refine loadC 5 46 (v := ?_) o123_7_5 rfl (by kernel_rfl) (by kernel_rfl) (by kernel_rfl) (by kernel_rfl) (fun _ _ _ h => h) (by rfl) ?y5_6 (by exact ⟨(HBX.out _ HB3.out).2.2.2.1, (HBX.out _ HB3.out).2.2.2.2.1⟩) ?_
        case y5_6 => intro w h; (try dsimp only at h); go_simp; try with_reducible rfl
        simp only [sE0, sE1]; refine readyC (rs := [6]) (by kernel_rfl) (by simp) (each_cons (runC o123_7_6 (by rfl) (fun K hK => ?_)) each_nil)
        obtain ⟨t1, ft1⟩ := HM3.out.takenc hlt; go_simp; replace HB3 := Lib.hid (HB3.out.set (Y := T) (o := k) (u := .bool true) (fun b hb => (HBN.out b hb).2.1))
        replace hb3 := below_set (o := k) hb3 hlT (.bool true); clear t1 ft1; refine hK.out _ _ (fun _ => ?_) ?_
        ·(exact ⟨(HBX.out _ HB3.out).2.2.2.1, (HBX.out _ HB3.out).2.2.2.2.1⟩)
        clear hK K; try simp only [sEt, sE0, sE1]
        refine takeC 7 47 (v := ?_) o123_7_7 rfl (by kernel_rfl) (by kernel_rfl) (by kernel_rfl) (by rfl) (fun _ _ _ h => h) (by rfl) ?y7_7 ?_
        case y7_7 => intro w; go_simp; try with_reducible rfl
        simp only [sE0, sE1]; refine readyC (rs := [8]) (by kernel_rfl) (by simp) (each_cons (runC o123_7_8 (by rfl) (fun K hK => ?_)) each_nil)
        obtain ⟨ch, c1, c2⟩ := HM3.out.h; have h1 := cell_at (heap_far (o := k) (u := .bool true) c1 (Ne.symm HM3.out.ne.2.2)) k (c2 k hlt); have fh1 := free_of (heap_far (o := k) (u := .bool true) c1 (Ne.symm HM3.out.ne.2.2)) k; go_simp; replace HB3 := Lib.hid (HB3.out.set (Y := H) (o := k) (u := .int .i64 (who : Int)) (fun b hb => (HBN.out b hb).2.2))
        replace hb3 := below_set (o := k) hb3 hlH (.int .i64 (who : Int)); replace HM3 := Lib.hid (HM3.out.put (p := k) hwho); clear h1 fh1 c1 c2; refine hK.out _ _ (fun h => absurd h (by decide)) ?_
        clear hK K; try simp only [sEt, sE0, sE1]
        refine doneC (by kernel_rfl) ?_ _
        go_wp2_with fail
        go_ret
        exact ⟨rfl, HM3.out, HB3.out, hb3⟩
    ·rw [hask] at a0
     have HR := Lib.hid (HR.out.trans (scan_skip (by rw [hask]; rfl)))
     clear x2 x3 x5 x6 x8 hask; go_wp2_with fail
     go_roundw
     case rel => exact ⟨k + 1, s', by omega, by go_num, HR, Hu, HM, HB, hb⟩
     case measure => simp [intOf]; omega
   ·obtain rfl : k = P := by omega
    have hR : R = (false, s') := by rw [HR.out, Nat.sub_self]; rfl
    subst hR; clear HR; go_wp2_with fail
    go_ret
    exact ⟨rfl, HM.out, HB.out, hb⟩
end Go.Proofs.YtfcaokpadodijaaGreat
