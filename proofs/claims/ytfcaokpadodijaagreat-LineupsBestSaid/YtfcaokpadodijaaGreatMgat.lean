/- A function that places one more at one of so many places. -/
import Derived.Test.YtfcaokpadodijaaGreatMgas
import Derived.Deep.OwnRows
import Derived.Laws.OwnMore
import Derived.Laws.EntriesVeiled
namespace Go.Proofs.YtfcaokpadodijaaGreat
open Go.RowKit Mat

theorem info_bool : (Tryz.prog.info? 4).map (fun i => (i.zero, i.size, i.bytes)) = some (some (.bool false), 1, 1) := by kernel_rfl
theorem info_int1 : (Tryz.prog.info? 3).map (fun i => (i.zero, i.size, i.bytes)) = some (some (.int .i64 0), 1, 8) := by kernel_rfl
theorem make_bools (P : Nat) (hP : P ≤ 1000) (w : World) : (Instr.makeSlice 152 (.int .i64 (P : Int)) (.int .i64 (P : Int))).run Tryz.prog w = .ok (.slice (some ⟨w.heap.size, 0, none⟩) P P) (w.alloc (.cells (madeCells #[.bool false] P) 4)) :=
 run_make_row' 152 4 (.bool false) 1 Tryz.underlying152 info_bool rfl .i64 .i64 P (by omega) (by omega) w
theorem make_ints (P : Nat) (hP : P ≤ 1000) (w : World) : (Instr.makeSlice 22 (.int .i64 (P : Int)) (.int .i64 (P : Int))).run Tryz.prog w = .ok (.slice (some ⟨w.heap.size, 0, none⟩) P P) (w.alloc (.cells (madeCells #[.int .i64 0] P) 3)) :=
 run_make_row' 22 3 (.int .i64 0) 8 Tryz.underlying22 info_int1 rfl .i64 .i64 P (by omega) (by omega) w
theorem made_get {v : Value} : ∀ (P p : Nat), p < P → (madeCells #[v] P)[p]? = some v := by
 intro P p h
 rw [← Array.getElem?_toList, toList_madeCells_one, List.getElem?_replicate, if_pos h]
/-- Who holds which place, and which are taken. -/
structure PTk (n P T H : Nat) (s : PSt) (w : World) : Prop where
 t : ∃ cur, w.heap[T]? = some (.cells cur 4 (0, 0)) ∧ ∀ p, p < P → cur[p]? = some (.bool (s.taken p))
 h : ∃ cur, w.heap[H]? = some (.cells cur 3 (0, 0)) ∧ ∀ p, p < P → cur[p]? = some (.int .i64 (s.hold p : Int))
 low : ∀ p, p < P → s.taken p = true → s.hold p < n
 ne : T ≠ H
theorem PTk.below {n P T H : Nat} {s : PSt} {w w' : World} (m : PTk n P T H s w) (hb : Below w.heap.size w w') : PTk n P T H s w' := by
 obtain ⟨⟨ct, t1, t2⟩, ⟨ch, h1, h2⟩, low, ne⟩ := m
 exact ⟨⟨ct, cells_later t1 hb, t2⟩, ⟨ch, cells_later h1 hb, h2⟩, low, ne⟩
theorem PMem.tk {n P A T H : Nat} {s : PSt} {w : World} (m : PMem n P A T H s w) : PTk n P T H s w := ⟨m.t, m.h, m.low, m.ne.2.2⟩
theorem cntL_same {s s' : PSt} (ht : s'.taken = s.taken) (hh : s'.hold = s.hold) (x : Nat) : ∀ ps, cntL s' x ps = cntL s x ps
 | [] => rfl
 | p :: ps => by rw [cntL, cntL, ht, hh, cntL_same ht hh x ps]
theorem Mat.Valid.same {fits : Nat → Nat → Bool} {P : Nat} {s s' : PSt} {A : List Nat} (h : Valid fits P s A) (ht : s'.taken = s.taken) (hh : s'.hold = s.hold) : Valid fits P s' A :=
 ⟨h.nodup, fun x => by rw [← h.one x]; exact cntL_same ht hh x _, fun p hp hk => by rw [hh]; exact h.ok p hp (by rw [← ht]; exact hk)⟩
/-- The boxes of a placer. -/
def plBs (P X2 X3 X5 X6 T H ta ha gf : Nat) (caps : Array Value) : List (Nat × Obj) :=
 [(X2, .cells #[.int .i64 (P : Int)] 3 (0, 0)), (X3, .cells #[.func (.func gf) #[] caps] 123 (0, 0)), (X5, .cells #[.slice (some ⟨T, 0, none⟩) P ta] 152 (0, 0)), (X6, .cells #[.slice (some ⟨H, 0, none⟩) P ha] 22 (0, 0))]
/-- Those of A are placed. -/
def Plcd (fits : Nat → Nat → Bool) (n P lo X2 X3 X5 X6 T H ta ha gf : Nat) (caps : Array Value) (w0 : World) (A : List Nat) (w : World) : Prop :=
 ∃ s, Valid fits P s A ∧ PTk n P T H s w ∧ Bxs (plBs P X2 X3 X5 X6 T H ta ha gf caps) w ∧ Below lo w0 w
theorem Plcd.below {fits : Nat → Nat → Bool} {n P lo X2 X3 X5 X6 T H ta ha gf : Nat} {caps : Array Value} {w0 : World} {A : List Nat} {w w' : World} (h : Plcd fits n P lo X2 X3 X5 X6 T H ta ha gf caps w0 A w) (hl : lo ≤ T) (hb : Below w.heap.size w w') : Plcd fits n P lo X2 X3 X5 X6 T H ta ha gf caps w0 A w' := by
 obtain ⟨s, h1, h2, h3, h4⟩ := h
 obtain ⟨ct, t1, -⟩ := h2.t
 have := lt_of_heap t1
 exact ⟨s, h1, h2.below hb, h3.below hb, h4.trans (hb.mono (by omega))⟩
/-- One more is placed just if that can be. -/
def PlcV (fits : Nat → Nat → Bool) (n P lo X2 X3 X5 X6 T H ta ha gf : Nat) (caps : Array Value) (w0 : World) (A : List Nat) (who : Nat) (e : Ending) (w' : World) : Prop :=
 ∃ r : Bool, e = .returned (.bool r) ∧ (r = true ↔ Fit fits P (who :: A)) ∧ Plcd fits n P lo X2 X3 X5 X6 T H ta ha gf caps w0 (if r then who :: A else A) w'
set_option maxRecDepth 100000 in
set_option maxHeartbeats 4000000 in
theorem place_ex_calls (ex : List (Nat × Obj)) (fits : Nat → Nat → Bool) (n P lo X2 X3 X5 X6 T H ta ha gf : Nat) (caps : Array Value) (w0 : World) (hP : P ≤ 1000) (hn : n ≤ 1000000) (hlo : lo ≤ T ∧ lo ≤ H) (hX : ∀ X ∈ [X2, X3, X5, X6], X ≠ T ∧ X ≠ H)
  (hfits : ∀ (W : World) (a p : Nat), a < n → p < P → Below lo w0 W → Calls Tryz.prog gf (#[.int .i64 (a : Int), .int .i64 (p : Int)] ++ caps) W (BoolIs (fits a p) W))
  (egf : ∀ args w, (callFunc gf args).run Tryz.prog w = .ok (.enter gf args) w) (A : List Nat) (who : Nat) (w : World) (hwho : who < n) (hA : who ∉ A) (hp : Plcd fits n P lo X2 X3 X5 X6 T H ta ha gf caps w0 A w) (hex : ∀ b ∈ ex, b.1 ≠ T ∧ b.1 ≠ H ∧ w.heap[b.1]? = some b.2) :
  Calls Tryz.prog 122 #[.int .i64 (who : Int), .pointer (some ⟨X2, 0, none⟩), .pointer (some ⟨X3, 0, none⟩), .pointer (some ⟨X5, 0, none⟩), .pointer (some ⟨X6, 0, none⟩)] w (fun e w' => PlcV fits n P lo X2 X3 X5 X6 T H ta ha gf caps w0 A who e w' ∧ ∀ b ∈ ex, w'.heap[b.1]? = some b.2) := by
 obtain ⟨s, hV, hT, hB, hb⟩ := hp
 have hmk := make_bools P hP
 have egs : ∀ args w, (callFunc 123 args).run Tryz.prog w = .ok (.enter 123 args) w := by intro args w; go_simp
 have x2 := cell_at (hB (X2, _) (.head _)) 0 rfl
 obtain ⟨ct, t1, -⟩ := hT.t
 obtain ⟨ch, h1, -⟩ := hT.h
 have htl := lt_of_heap t1
 have hhl := lt_of_heap h1
 have l2 := lt_of_heap (hB (X2, _) (.head _))
 have l3 := lt_of_heap (hB (X3, _) (.tail _ (.head _)))
 have l5 := lt_of_heap (hB (X5, _) (.tail _ (.tail _ (.head _))))
 have l6 := lt_of_heap (hB (X6, _) (.tail _ (.tail _ (.tail _ (.head _)))))
 obtain ⟨W, hW⟩ : ∃ W, W = ((w.alloc (.cells (madeCells #[.bool false] P) 4)).alloc (.cells #[.slice (some ⟨w.heap.size, 0, none⟩) P P] 152)).alloc (.cells #[.func (.func 123) #[] #[.pointer (some ⟨X2, 0, none⟩), .pointer (some ⟨w.heap.size + 1, 0, none⟩), .pointer (some ⟨X3, 0, none⟩), .pointer (some ⟨X5, 0, none⟩), .pointer (some ⟨w.heap.size + 2, 0, none⟩), .pointer (some ⟨X6, 0, none⟩)]] 69) := ⟨_, rfl⟩
 obtain ⟨V, hV'⟩ : ∃ V, V = (w.alloc (.cells (madeCells #[.bool false] P) 4)).alloc (.cells #[.slice (some ⟨w.heap.size, 0, none⟩) P P] 152) := ⟨_, rfl⟩
 have hVs : V.heap.size = w.heap.size + 2 := by rw [hV']; simp
 have hbV : Below w.heap.size w V := by rw [hV']; exact (below_alloc w _).trans ((below_alloc _ _).mono (by simp))
 have va : V.heap[w.heap.size]? = some (.cells (madeCells #[.bool false] P) 4 (0, 0)) := by rw [hV']; exact heap_al (heap_alloc_new w _) _
 have v7 : V.heap[w.heap.size + 1]? = some (.cells #[.slice (some ⟨w.heap.size, 0, none⟩) P P] 152 (0, 0)) := by
  have := heap_alloc_new (w.alloc (.cells (madeCells #[.bool false] P) 4)) (.cells #[.slice (some ⟨w.heap.size, 0, none⟩) P P] 152)
  rw [World.size_alloc] at this
  rw [hV']; exact this
 rw [← hV'] at hW
 have hbVW : Below V.heap.size V W := by rw [hW]; exact below_alloc V _
 have w8 : W.heap[w.heap.size + 2]? = some (.cells #[.func (.func 123) #[] #[.pointer (some ⟨X2, 0, none⟩), .pointer (some ⟨w.heap.size + 1, 0, none⟩), .pointer (some ⟨X3, 0, none⟩), .pointer (some ⟨X5, 0, none⟩), .pointer (some ⟨w.heap.size + 2, 0, none⟩), .pointer (some ⟨X6, 0, none⟩)]] 69 (0, 0)) := by
  rw [hW, ← hVs]; exact heap_alloc_new V _
 have wa := cells_later va hbVW
 have w7 := cells_later v7 hbVW
 have hbW := below_step hbV hbVW
 have hBW := hB.below hbW
 have hTW := hT.below hbW
 have hlw : lo ≤ w.heap.size := by omega
 have hM : PMem n P w.heap.size T H { s with asked := fun _ => false } W := ⟨⟨_, wa, fun p hp => made_get P p hp⟩, hTW.t, hTW.h, hTW.low, by omega, by omega, hTW.ne⟩
 have hbs : Bxs ([(X2, .cells #[.int .i64 (P : Int)] 3 (0, 0)), (w.heap.size + 1, .cells #[.slice (some ⟨w.heap.size, 0, none⟩) P P] 152 (0, 0)), (X3, .cells #[.func (.func gf) #[] caps] 123 (0, 0)), (X5, .cells #[.slice (some ⟨T, 0, none⟩) P ta] 152 (0, 0)), (X6, .cells #[.slice (some ⟨H, 0, none⟩) P ha] 22 (0, 0)),
   (w.heap.size + 2, .cells #[.func (.func 123) #[] #[.pointer (some ⟨X2, 0, none⟩), .pointer (some ⟨w.heap.size + 1, 0, none⟩), .pointer (some ⟨X3, 0, none⟩), .pointer (some ⟨X5, 0, none⟩), .pointer (some ⟨w.heap.size + 2, 0, none⟩), .pointer (some ⟨X6, 0, none⟩)]] 69 (0, 0))] ++ ex) W := by
  intro b hb; simp only [List.cons_append, List.nil_append, List.mem_cons] at hb
  rcases hb with rfl | rfl | rfl | rfl | rfl | rfl | hb
  ·exact hBW _ (.head _)
  ·exact w7
  ·exact hBW _ (.tail _ (.head _))
  ·exact hBW _ (.tail _ (.tail _ (.head _)))
  ·exact hBW _ (.tail _ (.tail _ (.tail _ (.head _))))
  ·exact w8
  ·exact (hbW.block _ (lt_of_heap (hex b hb).2.2)).trans (hex b hb).2.2
 have hexA : ∀ b ∈ ex, b.1 ≠ w.heap.size ∧ b.1 ≠ T ∧ b.1 ≠ H := fun b hb => ⟨by have := lt_of_heap (hex b hb).2.2; omega, (hex b hb).1, (hex b hb).2.1⟩
 have hx : ∀ X ∈ [X2, X3, X5, X6, w.heap.size + 1, w.heap.size + 2], X ≠ w.heap.size ∧ X ≠ T ∧ X ≠ H := by
  intro X hm; simp only [List.mem_cons, List.not_mem_nil, or_false] at hm
  rcases hm with rfl | rfl | rfl | rfl | rfl | rfl
  ·have := hX _ (.head _); omega
  ·have := hX _ (.tail _ (.head _)); omega
  ·have := hX _ (.tail _ (.tail _ (.head _))); omega
  ·have := hX _ (.tail _ (.tail _ (.tail _ (.head _)))); omega
  ·omega
  ·omega
 have CS := Lib.hid (settle_calls fits n P w.heap.size T H lo X2 X3 X5 X6 (w.heap.size + 1) (w.heap.size + 2) P ta ha gf caps w0 hP hn ⟨hlw, hlo.1, hlo.2⟩ hx hfits egf egs _ ex hexA rfl (P + 1) who { s with asked := fun _ => false } W hwho (by
   unfold unasked; exact Nat.lt_succ_of_le (Nat.le_trans (List.length_filter_le _ _) (by rw [List.length_range]; exact Nat.le_refl _))) hM hbs (hb.trans (hbW.mono hlw)))
 have HPI := Lib.hid (place_iff (f := P + 1) (who := who) (s := { s with asked := fun _ => false }) (hV.same rfl rfl) hA (fun _ => rfl) (by omega))
 have HW := Lib.hid hW
 have W8 := Lib.hid w8
 have HV := Lib.hid hV'
 clear hM hbs hx hBW hTW hbW hbVW va v7 wa w7 w8 hbV hV' hVs hW hV hT hB hb hfits hX egf egs t1 h1 hex hexA
 go_enter Tryz.func122, Tryz.ntmps122
 go_upto_region 4 with fail
 rw [← HV.out, ← HW.out]
 have y8 := cell_at W8.out 0 rfl
 go_wp2_with fail
 refine CS.out.mono ?_
 rintro e w1 ⟨rfl, hM1, hB1, hb1⟩
 go_wp2_with fail
 go_ret
 refine ⟨⟨_, rfl, HPI.out.1, _, HPI.out.2, hM1.tk, fun b hb => ?_, hb1⟩, fun b hb => hB1 b (List.mem_append_right _ hb)⟩
 unfold plBs at hb
 simp only [List.mem_cons, List.not_mem_nil, or_false] at hb
 rcases hb with rfl | rfl | rfl | rfl
 ·exact hB1 _ (.head _)
 ·exact hB1 _ (.tail _ (.tail _ (.head _)))
 ·exact hB1 _ (.tail _ (.tail _ (.tail _ (.head _))))
 ·exact hB1 _ (.tail _ (.tail _ (.tail _ (.tail _ (.head _)))))
set_option maxRecDepth 100000 in
theorem place_calls (fits : Nat → Nat → Bool) (n P lo X2 X3 X5 X6 T H ta ha gf : Nat) (caps : Array Value) (w0 : World) (hP : P ≤ 1000) (hn : n ≤ 1000000) (hlo : lo ≤ T ∧ lo ≤ H) (hX : ∀ X ∈ [X2, X3, X5, X6], X ≠ T ∧ X ≠ H)
  (hfits : ∀ (W : World) (a p : Nat), a < n → p < P → Below lo w0 W → Calls Tryz.prog gf (#[.int .i64 (a : Int), .int .i64 (p : Int)] ++ caps) W (BoolIs (fits a p) W))
  (egf : ∀ args w, (callFunc gf args).run Tryz.prog w = .ok (.enter gf args) w) (A : List Nat) (who : Nat) (w : World) (hwho : who < n) (hA : who ∉ A) (hp : Plcd fits n P lo X2 X3 X5 X6 T H ta ha gf caps w0 A w) :
  Calls Tryz.prog 122 #[.int .i64 (who : Int), .pointer (some ⟨X2, 0, none⟩), .pointer (some ⟨X3, 0, none⟩), .pointer (some ⟨X5, 0, none⟩), .pointer (some ⟨X6, 0, none⟩)] w (PlcV fits n P lo X2 X3 X5 X6 T H ta ha gf caps w0 A who) := by
 exact (place_ex_calls [] fits n P lo X2 X3 X5 X6 T H ta ha gf caps w0 hP hn hlo hX hfits egf A who w hwho hA hp (fun b hb => by cases hb)).mono fun _ _ h => h.1
theorem any_box (w : World) (o : Obj) : ∃ X W, w.heap.size = X ∧ w.alloc o = W ∧ W.heap[X]? = some o ∧ Below w.heap.size w W := ⟨_, _, rfl, rfl, heap_alloc_new w o, below_alloc w o⟩
theorem keep_heap {w w' : World} {g : Nat} {o : Obj} (h : w.heap[g]? = some o) (hb : Below w.heap.size w w') : w'.heap[g]? = some o := (hb.block _ (lt_of_heap h)).trans h
theorem set_box {w : World} {X T : Nat} {u0 : Value} (h : w.heap[X]? = some (.cells #[u0] T (0, 0))) (u : Value) : ∃ W, w.setCell ⟨X, 0, none⟩ u = W ∧ W.heap[X]? = some (.cells #[u] T (0, 0)) ∧ (∀ (g : Nat) (o : Obj), w.heap[g]? = some o → g ≠ X → W.heap[g]? = some o) ∧ ∀ (b : Nat) (w0 : World), b ≤ X → Below b w0 w → Below b w0 W :=
 ⟨_, rfl, set_cells h u, fun _ _ hg hne => heap_far hg hne, fun _ _ hb h => below_set h hb u⟩
theorem shareP {A1 A2 A3 A4 A5 : Sort _} {C G : A1 → A2 → A3 → A4 → A5 → Prop} {R : Prop} (main : (∀ x1 x2 x3 x4 x5, C x1 x2 x3 x4 x5 → G x1 x2 x3 x4 x5) → R) (tail : ∀ x1 x2 x3 x4 x5, C x1 x2 x3 x4 x5 → G x1 x2 x3 x4 x5) : R := main tail
def obB (P : Nat) : Obj := .cells (madeCells #[.bool false] P) 4
def obI (P : Nat) : Obj := .cells (madeCells #[.int .i64 0] P) 3
def ob5 (T P : Nat) : Obj := .cells #[.slice (some ⟨T, 0, none⟩) P P] 152
def ob6 : Obj := .cells #[.slice none 0 0] 22
/-- What is laid for a placer. -/
def PlLaid (P z T H X5 X6 : Nat) (W : World) : Prop := W.heap[T]? = some (obB P) ∧ W.heap[H]? = some (obI P) ∧ W.heap[X5]? = some (ob5 T P) ∧ W.heap[X6]? = some ob6 ∧ (T ≠ H ∧ T ≠ X5 ∧ T ≠ X6 ∧ H ≠ X5 ∧ H ≠ X6 ∧ X5 ≠ X6) ∧ z ≤ T ∧ z ≤ H ∧ z ≤ X5 ∧ z ≤ X6
/-- A placer. -/
def PlNew (fits : Nat → Nat → Bool) (n P gf : Nat) (caps : Array Value) (w : World) (e : Ending) (w' : World) : Prop :=
 ∃ X2 X3 X5 X6 T H, e = .returned (.func (.func 122) #[] #[.pointer (some ⟨X2, 0, none⟩), .pointer (some ⟨X3, 0, none⟩), .pointer (some ⟨X5, 0, none⟩), .pointer (some ⟨X6, 0, none⟩)]) ∧
  (w.heap.size ≤ T ∧ w.heap.size ≤ H) ∧ (∀ X ∈ [X2, X3, X5, X6], X ≠ T ∧ X ≠ H) ∧ Plcd fits n P w.heap.size X2 X3 X5 X6 T H P P gf caps w [] w'
def o80_1 : Array Go.Oper := #[
 ⟨some 7, .load 3 (.tmp 2), 3, "best.go:55", #[], none⟩,
 ⟨some 8, .makeSlice 152 (.tmp 7) (.tmp 7), 152, "best.go:55", #[⟨0, .data⟩, ⟨0, .data⟩], none⟩,
 ⟨some 9, .load 3 (.tmp 2), 3, "best.go:55", #[], none⟩,
 ⟨some 10, .makeSlice 22 (.tmp 9) (.tmp 9), 22, "best.go:55", #[⟨2, .data⟩, ⟨2, .data⟩], none⟩,
 ⟨some 5, .alloc 152, 0, "best.go:55", #[], none⟩,
 ⟨some 6, .alloc 22, 0, "best.go:55", #[], none⟩,
 ⟨none, .store 152 (.tmp 5) (.tmp 8), 0, "best.go:55", #[⟨4, .data⟩, ⟨1, .data⟩, ⟨0, .phase⟩, ⟨1, .phase⟩, ⟨2, .textOnly .lateStores⟩, ⟨3, .textOnly .lateStoresUnsure⟩, ⟨4, .phase⟩, ⟨5, .phase⟩], none⟩,
 ⟨none, .store 22 (.tmp 6) (.tmp 10), 0, "best.go:55", #[⟨5, .data⟩, ⟨3, .data⟩, ⟨6, .chain⟩, ⟨0, .phase⟩, ⟨1, .phase⟩, ⟨2, .phase⟩, ⟨3, .phase⟩, ⟨4, .phase⟩, ⟨5, .phase⟩, ⟨6, .phase⟩], none⟩]
theorem o80_1_0 : o80_1[0]? = some (⟨some 7, .load 3 (.tmp 2), 3, "best.go:55", #[], none⟩ : Go.Oper) := rfl
theorem o80_1_1 : o80_1[1]? = some (⟨some 8, .makeSlice 152 (.tmp 7) (.tmp 7), 152, "best.go:55", #[⟨0, .data⟩, ⟨0, .data⟩], none⟩ : Go.Oper) := rfl
theorem o80_1_2 : o80_1[2]? = some (⟨some 9, .load 3 (.tmp 2), 3, "best.go:55", #[], none⟩ : Go.Oper) := rfl
theorem o80_1_3 : o80_1[3]? = some (⟨some 10, .makeSlice 22 (.tmp 9) (.tmp 9), 22, "best.go:55", #[⟨2, .data⟩, ⟨2, .data⟩], none⟩ : Go.Oper) := rfl
theorem o80_1_4 : o80_1[4]? = some (⟨some 5, .alloc 152, 0, "best.go:55", #[], none⟩ : Go.Oper) := rfl
theorem o80_1_5 : o80_1[5]? = some (⟨some 6, .alloc 22, 0, "best.go:55", #[], none⟩ : Go.Oper) := rfl
theorem o80_1_6 : o80_1[6]? = some (⟨none, .store 152 (.tmp 5) (.tmp 8), 0, "best.go:55", #[⟨4, .data⟩, ⟨1, .data⟩, ⟨0, .phase⟩, ⟨1, .phase⟩, ⟨2, .textOnly .lateStores⟩, ⟨3, .textOnly .lateStoresUnsure⟩, ⟨4, .phase⟩, ⟨5, .phase⟩], none⟩ : Go.Oper) := rfl
theorem o80_1_7 : o80_1[7]? = some (⟨none, .store 22 (.tmp 6) (.tmp 10), 0, "best.go:55", #[⟨5, .data⟩, ⟨3, .data⟩, ⟨6, .chain⟩, ⟨0, .phase⟩, ⟨1, .phase⟩, ⟨2, .phase⟩, ⟨3, .phase⟩, ⟨4, .phase⟩, ⟨5, .phase⟩, ⟨6, .phase⟩], none⟩ : Go.Oper) := rfl
set_option maxRecDepth 100000 in
set_option maxHeartbeats 32000000 in
theorem placing_calls (fits : Nat → Nat → Bool) (n P gf : Nat) (caps : Array Value) (w : World) (hP : P ≤ 1000) :
  Calls Tryz.prog 80 #[.int .i64 (P : Int), .func (.func gf) #[] caps] w (PlNew fits n P gf caps w) := by
 have hm1 := make_bools P hP
 have hm2 := make_ints P hP
 obtain ⟨V, hV⟩ : ∃ V, V = (w.alloc (.cells #[.int .i64 (P : Int)] 3)).alloc (.cells #[.func (.func gf) #[] caps] 123) := ⟨_, rfl⟩
 have hVs : V.heap.size = w.heap.size + 2 := by rw [hV]; simp
 have hbV : Below w.heap.size w V := by rw [hV]; exact (below_alloc w _).trans ((below_alloc _ _).mono (by simp))
 have v2 : V.heap[w.heap.size]? = some (.cells #[.int .i64 (P : Int)] 3 (0, 0)) := by rw [hV]; exact heap_al (heap_alloc_new w _) _
 have v3 : V.heap[w.heap.size + 1]? = some (.cells #[.func (.func gf) #[] caps] 123 (0, 0)) := by
  have := heap_alloc_new (w.alloc (.cells #[.int .i64 (P : Int)] 3)) (.cells #[.func (.func gf) #[] caps] 123)
  rw [World.size_alloc] at this
  rw [hV]; exact this
 have x2 := cell_at v2 0 rfl
 have HS := Lib.hid (show ∀ w', Below V.heap.size V w' → w'.cell? ⟨w.heap.size, 0, none⟩ = some (.int .i64 (P : Int)) from fun w' hb => below_cell hb x2)
 have V2 := Lib.hid v2
 have V3 := Lib.hid v3
 have HbV := Lib.hid hbV
 have HVs := Lib.hid hVs
 have hbc := (Below.refl V.heap.size V).drew
 clear x2 v2 v3 hbV hVs
 go_enter Tryz.func80, Tryz.ntmps80
 go_upto_region 1 with fail
 rw [← hV]
 clear hV
 have HZ := Lib.hid (show w.heap.size + 2 ≤ V.heap.size by have := HVs.out; omega)
 generalize hZ2 : w.heap.size + 1 = Z3 at V3 HZ ⊢
 generalize hZ : w.heap.size = Z at hZ2 V2 HbV HVs HZ HS ⊢
 have hC := HS.out _ hbc
 show Code.wp _ (Code.region 1 o80_1 true) _ _ _
 refine regionC_start 8 (fun w' => w'.cell? ⟨Z, 0, none⟩ = some (.int .i64 (P : Int))) (fun j => [0, 1, 2, 3, 4, 5, 6].contains j) (by kernel_rfl) rfl ?_
 generalize V.drew = W0 at hbc hC ⊢
 apply shareP (C := fun (T H X5 X6 : Nat) (W : World) => PlLaid P V.heap.size T H X5 X6 W ∧ Below V.heap.size V W)
 ·intro tail
  refine loadC 0 7 (v := ?_) o80_1_0 rfl (by kernel_rfl) (by kernel_rfl) (by kernel_rfl) (by kernel_rfl) (fun _ _ _ h => h) (by rfl) ?y0_1 (by exact hC) ?_
  case y0_1 => intro w h; (try dsimp only at h); go_simp; try with_reducible rfl
  simp only [sE0, sE1]; refine loadC 2 9 (v := ?_) o80_1_2 rfl (by kernel_rfl) (by kernel_rfl) (by kernel_rfl) (by kernel_rfl) (fun _ _ _ h => h) (by rfl) ?y2_2 (by exact hC) ?_
  case y2_2 => intro w h; (try dsimp only at h); go_simp; try with_reducible rfl
  simp only [sE0, sE1]; refine readyC (rs := [1, 3, 4, 5]) (by kernel_rfl) (by simp) (each_cons (runC o80_1_1 (by rfl) (fun K hK => ?_)) (each_cons (runC o80_1_3 (by rfl) (fun K hK => ?_)) (each_cons (runC o80_1_4 (by rfl) (fun K hK => ?_)) (each_cons (runC o80_1_5 (by rfl) (fun K hK => ?_)) each_nil))))
  ·go_simp
   obtain ⟨T, W1, eT, fT, hT, hbT⟩ := any_box _ (.cells (madeCells #[.bool false] P) 4); rw [fT, eT]; clear fT; have zT : V.heap.size ≤ T := by rw [← eT]; exact hbc.size
   try have lHT : H < T := by have := lt_of_heap hH; omega
   try replace hH := keep_heap hH hbT
   try have lX5T : X5 < T := by have := lt_of_heap h5; omega
   try replace h5 := keep_heap h5 hbT
   try have lX6T : X6 < T := by have := lt_of_heap h6; omega
   try replace h6 := keep_heap h6 hbT
   replace hbc := below_step hbc hbT; replace hC := HS.out _ hbc; clear eT hbT; go_wp2_with fail
   refine hK.out _ _ (fun _ => ?_) ?_
   ·(exact hC)
   clear hK K; try simp only [Act.put, sEt, sE0, sE1]
   refine readyC (rs := [3, 4, 5]) (by kernel_rfl) (by simp) (each_cons (runC o80_1_3 (by rfl) (fun K hK => ?_)) (each_cons (runC o80_1_4 (by rfl) (fun K hK => ?_)) (each_cons (runC o80_1_5 (by rfl) (fun K hK => ?_)) each_nil)))
   ·go_simp
    obtain ⟨H, W3, eH, fH, hH, hbH⟩ := any_box _ (.cells (madeCells #[.int .i64 0] P) 3); rw [fH, eH]; clear fH; have zH : V.heap.size ≤ H := by rw [← eH]; exact hbc.size
    try have lTH : T < H := by have := lt_of_heap hT; omega
    try replace hT := keep_heap hT hbH
    try have lX5H : X5 < H := by have := lt_of_heap h5; omega
    try replace h5 := keep_heap h5 hbH
    try have lX6H : X6 < H := by have := lt_of_heap h6; omega
    try replace h6 := keep_heap h6 hbH
    replace hbc := below_step hbc hbH; replace hC := HS.out _ hbc; clear eH hbH; go_wp2_with fail
    refine hK.out _ _ (fun _ => ?_) ?_
    ·(exact hC)
    clear hK K; try simp only [Act.put, sEt, sE0, sE1]
    refine readyC (rs := [4, 5]) (by kernel_rfl) (by simp) (each_cons (runC o80_1_4 (by rfl) (fun K hK => ?_)) (each_cons (runC o80_1_5 (by rfl) (fun K hK => ?_)) each_nil))
    ·go_simp
     obtain ⟨X5, W4, eX5, fX5, h5, hbX5⟩ := any_box _ (.cells #[.slice none 0 0] 152); rw [fX5, eX5]; clear fX5; have zX5 : V.heap.size ≤ X5 := by rw [← eX5]; exact hbc.size
     try have lTX5 : T < X5 := by have := lt_of_heap hT; omega
     try replace hT := keep_heap hT hbX5
     try have lHX5 : H < X5 := by have := lt_of_heap hH; omega
     try replace hH := keep_heap hH hbX5
     try have lX6X5 : X6 < X5 := by have := lt_of_heap h6; omega
     try replace h6 := keep_heap h6 hbX5
     replace hbc := below_step hbc hbX5; replace hC := HS.out _ hbc; clear eX5 hbX5; go_wp2_with fail
     refine hK.out _ _ (fun _ => ?_) ?_
     ·(exact hC)
     clear hK K; try simp only [Act.put, sEt, sE0, sE1]
     refine readyC (rs := [5]) (by kernel_rfl) (by simp) (each_cons (runC o80_1_5 (by rfl) (fun K hK => ?_)) each_nil)
     go_simp; obtain ⟨X6, W5, eX6, fX6, h6, hbX6⟩ := any_box _ (.cells #[.slice none 0 0] 22); rw [fX6, eX6]; clear fX6; have zX6 : V.heap.size ≤ X6 := by rw [← eX6]; exact hbc.size
     try have lTX6 : T < X6 := by have := lt_of_heap hT; omega
     try replace hT := keep_heap hT hbX6
     try have lHX6 : H < X6 := by have := lt_of_heap hH; omega
     try replace hH := keep_heap hH hbX6
     try have lX5X6 : X5 < X6 := by have := lt_of_heap h5; omega
     try replace h5 := keep_heap h5 hbX6
     replace hbc := below_step hbc hbX6; replace hC := HS.out _ hbc; clear eX6 hbX6; go_wp2_with fail
     refine hK.out _ _ (fun _ => ?_) ?_
     ·(exact hC)
     clear hK K; try simp only [Act.put, sEt, sE0, sE1]
     refine readyC (rs := [6]) (by kernel_rfl) (by simp) (each_cons (runC o80_1_6 (by rfl) (fun K hK => ?_)) each_nil)
     have c5 := cell_at h5 0 rfl; have f5 := free_of h5 0; go_simp; obtain ⟨W6, e6, h5n, hk6, hb6⟩ := set_box h5 (.slice (some ⟨T, 0, none⟩) P P); rw [e6]; clear e6 c5 f5; replace hT := hk6 _ _ hT (by omega)
     try replace hH := hk6 _ _ hH (by omega)
     try replace h6 := hk6 _ _ h6 (by omega)
     replace h5 := h5n; replace hbc := hb6 _ _ zX5 hbc; replace hC := HS.out _ hbc; clear h5n hk6 hb6; refine hK.out _ _ (fun _ => ?_) ?_
     ·(exact hC)
     clear hK K; try simp only [sEt, sE0, sE1]
     refine sameC (l' := (bQ 8 127)) (by kernel_rfl) ?_
     first | exact tail T H X5 X6 W6 ⟨⟨hT, hH, h5, h6, by omega, by omega, by omega, by omega, by omega⟩, hbc⟩ | exact tail T H X5 X6 W1 ⟨⟨hT, hH, h5, h6, by omega, by omega, by omega, by omega, by omega⟩, hbc⟩ | exact tail T H X5 X6 W3 ⟨⟨hT, hH, h5, h6, by omega, by omega, by omega, by omega, by omega⟩, hbc⟩ | exact tail T H X5 X6 W4 ⟨⟨hT, hH, h5, h6, by omega, by omega, by omega, by omega, by omega⟩, hbc⟩ | exact tail T H X5 X6 W5 ⟨⟨hT, hH, h5, h6, by omega, by omega, by omega, by omega, by omega⟩, hbc⟩
    ·go_simp
     obtain ⟨X6, W5, eX6, fX6, h6, hbX6⟩ := any_box _ (.cells #[.slice none 0 0] 22); rw [fX6, eX6]; clear fX6; have zX6 : V.heap.size ≤ X6 := by rw [← eX6]; exact hbc.size
     try have lTX6 : T < X6 := by have := lt_of_heap hT; omega
     try replace hT := keep_heap hT hbX6
     try have lHX6 : H < X6 := by have := lt_of_heap hH; omega
     try replace hH := keep_heap hH hbX6
     try have lX5X6 : X5 < X6 := by have := lt_of_heap h5; omega
     try replace h5 := keep_heap h5 hbX6
     replace hbc := below_step hbc hbX6; replace hC := HS.out _ hbc; clear eX6 hbX6; go_wp2_with fail
     refine hK.out _ _ (fun _ => ?_) ?_
     ·(exact hC)
     clear hK K; try simp only [Act.put, sEt, sE0, sE1]
     refine readyC (rs := [4]) (by kernel_rfl) (by simp) (each_cons (runC o80_1_4 (by rfl) (fun K hK => ?_)) each_nil)
     go_simp; obtain ⟨X5, W4, eX5, fX5, h5, hbX5⟩ := any_box _ (.cells #[.slice none 0 0] 152); rw [fX5, eX5]; clear fX5; have zX5 : V.heap.size ≤ X5 := by rw [← eX5]; exact hbc.size
     try have lTX5 : T < X5 := by have := lt_of_heap hT; omega
     try replace hT := keep_heap hT hbX5
     try have lHX5 : H < X5 := by have := lt_of_heap hH; omega
     try replace hH := keep_heap hH hbX5
     try have lX6X5 : X6 < X5 := by have := lt_of_heap h6; omega
     try replace h6 := keep_heap h6 hbX5
     replace hbc := below_step hbc hbX5; replace hC := HS.out _ hbc; clear eX5 hbX5; go_wp2_with fail
     refine hK.out _ _ (fun _ => ?_) ?_
     ·(exact hC)
     clear hK K; try simp only [Act.put, sEt, sE0, sE1]
     refine readyC (rs := [6]) (by kernel_rfl) (by simp) (each_cons (runC o80_1_6 (by rfl) (fun K hK => ?_)) each_nil)
     have c5 := cell_at h5 0 rfl; have f5 := free_of h5 0; go_simp; obtain ⟨W6, e6, h5n, hk6, hb6⟩ := set_box h5 (.slice (some ⟨T, 0, none⟩) P P); rw [e6]; clear e6 c5 f5; replace hT := hk6 _ _ hT (by omega)
     try replace hH := hk6 _ _ hH (by omega)
     try replace h6 := hk6 _ _ h6 (by omega)
     replace h5 := h5n; replace hbc := hb6 _ _ zX5 hbc; replace hC := HS.out _ hbc; clear h5n hk6 hb6; refine hK.out _ _ (fun _ => ?_) ?_
     ·(exact hC)
     clear hK K; try simp only [sEt, sE0, sE1]
     refine sameC (l' := (bQ 8 127)) (by kernel_rfl) ?_
     first | exact tail T H X5 X6 W6 ⟨⟨hT, hH, h5, h6, by omega, by omega, by omega, by omega, by omega⟩, hbc⟩ | exact tail T H X5 X6 W1 ⟨⟨hT, hH, h5, h6, by omega, by omega, by omega, by omega, by omega⟩, hbc⟩ | exact tail T H X5 X6 W3 ⟨⟨hT, hH, h5, h6, by omega, by omega, by omega, by omega, by omega⟩, hbc⟩ | exact tail T H X5 X6 W4 ⟨⟨hT, hH, h5, h6, by omega, by omega, by omega, by omega, by omega⟩, hbc⟩ | exact tail T H X5 X6 W5 ⟨⟨hT, hH, h5, h6, by omega, by omega, by omega, by omega, by omega⟩, hbc⟩
   ·go_simp
    obtain ⟨X5, W4, eX5, fX5, h5, hbX5⟩ := any_box _ (.cells #[.slice none 0 0] 152); rw [fX5, eX5]; clear fX5; have zX5 : V.heap.size ≤ X5 := by rw [← eX5]; exact hbc.size
    try have lTX5 : T < X5 := by have := lt_of_heap hT; omega
    try replace hT := keep_heap hT hbX5
    try have lHX5 : H < X5 := by have := lt_of_heap hH; omega
    try replace hH := keep_heap hH hbX5
    try have lX6X5 : X6 < X5 := by have := lt_of_heap h6; omega
    try replace h6 := keep_heap h6 hbX5
    replace hbc := below_step hbc hbX5; replace hC := HS.out _ hbc; clear eX5 hbX5; go_wp2_with fail
    refine hK.out _ _ (fun _ => ?_) ?_
    ·(exact hC)
    clear hK K; try simp only [Act.put, sEt, sE0, sE1]
    refine readyC (rs := [3, 5]) (by kernel_rfl) (by simp) (each_cons (runC o80_1_3 (by rfl) (fun K hK => ?_)) (each_cons (runC o80_1_5 (by rfl) (fun K hK => ?_)) each_nil))
    ·go_simp
     obtain ⟨H, W3, eH, fH, hH, hbH⟩ := any_box _ (.cells (madeCells #[.int .i64 0] P) 3); rw [fH, eH]; clear fH; have zH : V.heap.size ≤ H := by rw [← eH]; exact hbc.size
     try have lTH : T < H := by have := lt_of_heap hT; omega
     try replace hT := keep_heap hT hbH
     try have lX5H : X5 < H := by have := lt_of_heap h5; omega
     try replace h5 := keep_heap h5 hbH
     try have lX6H : X6 < H := by have := lt_of_heap h6; omega
     try replace h6 := keep_heap h6 hbH
     replace hbc := below_step hbc hbH; replace hC := HS.out _ hbc; clear eH hbH; go_wp2_with fail
     refine hK.out _ _ (fun _ => ?_) ?_
     ·(exact hC)
     clear hK K; try simp only [Act.put, sEt, sE0, sE1]
     refine readyC (rs := [5]) (by kernel_rfl) (by simp) (each_cons (runC o80_1_5 (by rfl) (fun K hK => ?_)) each_nil)
     go_simp; obtain ⟨X6, W5, eX6, fX6, h6, hbX6⟩ := any_box _ (.cells #[.slice none 0 0] 22); rw [fX6, eX6]; clear fX6; have zX6 : V.heap.size ≤ X6 := by rw [← eX6]; exact hbc.size
     try have lTX6 : T < X6 := by have := lt_of_heap hT; omega
     try replace hT := keep_heap hT hbX6
     try have lHX6 : H < X6 := by have := lt_of_heap hH; omega
     try replace hH := keep_heap hH hbX6
     try have lX5X6 : X5 < X6 := by have := lt_of_heap h5; omega
     try replace h5 := keep_heap h5 hbX6
     replace hbc := below_step hbc hbX6; replace hC := HS.out _ hbc; clear eX6 hbX6; go_wp2_with fail
     refine hK.out _ _ (fun _ => ?_) ?_
     ·(exact hC)
     clear hK K; try simp only [Act.put, sEt, sE0, sE1]
     refine readyC (rs := [6]) (by kernel_rfl) (by simp) (each_cons (runC o80_1_6 (by rfl) (fun K hK => ?_)) each_nil)
     have c5 := cell_at h5 0 rfl; have f5 := free_of h5 0; go_simp; obtain ⟨W6, e6, h5n, hk6, hb6⟩ := set_box h5 (.slice (some ⟨T, 0, none⟩) P P); rw [e6]; clear e6 c5 f5; replace hT := hk6 _ _ hT (by omega)
     try replace hH := hk6 _ _ hH (by omega)
     try replace h6 := hk6 _ _ h6 (by omega)
     replace h5 := h5n; replace hbc := hb6 _ _ zX5 hbc; replace hC := HS.out _ hbc; clear h5n hk6 hb6; refine hK.out _ _ (fun _ => ?_) ?_
     ·(exact hC)
     clear hK K; try simp only [sEt, sE0, sE1]
     refine sameC (l' := (bQ 8 127)) (by kernel_rfl) ?_
     first | exact tail T H X5 X6 W6 ⟨⟨hT, hH, h5, h6, by omega, by omega, by omega, by omega, by omega⟩, hbc⟩ | exact tail T H X5 X6 W1 ⟨⟨hT, hH, h5, h6, by omega, by omega, by omega, by omega, by omega⟩, hbc⟩ | exact tail T H X5 X6 W3 ⟨⟨hT, hH, h5, h6, by omega, by omega, by omega, by omega, by omega⟩, hbc⟩ | exact tail T H X5 X6 W4 ⟨⟨hT, hH, h5, h6, by omega, by omega, by omega, by omega, by omega⟩, hbc⟩ | exact tail T H X5 X6 W5 ⟨⟨hT, hH, h5, h6, by omega, by omega, by omega, by omega, by omega⟩, hbc⟩
    ·go_simp
     obtain ⟨X6, W5, eX6, fX6, h6, hbX6⟩ := any_box _ (.cells #[.slice none 0 0] 22); rw [fX6, eX6]; clear fX6; have zX6 : V.heap.size ≤ X6 := by rw [← eX6]; exact hbc.size
     try have lTX6 : T < X6 := by have := lt_of_heap hT; omega
     try replace hT := keep_heap hT hbX6
     try have lHX6 : H < X6 := by have := lt_of_heap hH; omega
     try replace hH := keep_heap hH hbX6
     try have lX5X6 : X5 < X6 := by have := lt_of_heap h5; omega
     try replace h5 := keep_heap h5 hbX6
     replace hbc := below_step hbc hbX6; replace hC := HS.out _ hbc; clear eX6 hbX6; go_wp2_with fail
     refine hK.out _ _ (fun _ => ?_) ?_
     ·(exact hC)
     clear hK K; try simp only [Act.put, sEt, sE0, sE1]
     refine readyC (rs := [3, 6]) (by kernel_rfl) (by simp) (each_cons (runC o80_1_3 (by rfl) (fun K hK => ?_)) (each_cons (runC o80_1_6 (by rfl) (fun K hK => ?_)) each_nil))
     ·go_simp
      obtain ⟨H, W3, eH, fH, hH, hbH⟩ := any_box _ (.cells (madeCells #[.int .i64 0] P) 3); rw [fH, eH]; clear fH; have zH : V.heap.size ≤ H := by rw [← eH]; exact hbc.size
      try have lTH : T < H := by have := lt_of_heap hT; omega
      try replace hT := keep_heap hT hbH
      try have lX5H : X5 < H := by have := lt_of_heap h5; omega
      try replace h5 := keep_heap h5 hbH
      try have lX6H : X6 < H := by have := lt_of_heap h6; omega
      try replace h6 := keep_heap h6 hbH
      replace hbc := below_step hbc hbH; replace hC := HS.out _ hbc; clear eH hbH; go_wp2_with fail
      refine hK.out _ _ (fun _ => ?_) ?_
      ·(exact hC)
      clear hK K; try simp only [Act.put, sEt, sE0, sE1]
      refine readyC (rs := [6]) (by kernel_rfl) (by simp) (each_cons (runC o80_1_6 (by rfl) (fun K hK => ?_)) each_nil)
      have c5 := cell_at h5 0 rfl; have f5 := free_of h5 0; go_simp; obtain ⟨W6, e6, h5n, hk6, hb6⟩ := set_box h5 (.slice (some ⟨T, 0, none⟩) P P); rw [e6]; clear e6 c5 f5; replace hT := hk6 _ _ hT (by omega)
      try replace hH := hk6 _ _ hH (by omega)
      try replace h6 := hk6 _ _ h6 (by omega)
      replace h5 := h5n; replace hbc := hb6 _ _ zX5 hbc; replace hC := HS.out _ hbc; clear h5n hk6 hb6; refine hK.out _ _ (fun _ => ?_) ?_
      ·(exact hC)
      clear hK K; try simp only [sEt, sE0, sE1]
      refine sameC (l' := (bQ 8 127)) (by kernel_rfl) ?_
      first | exact tail T H X5 X6 W6 ⟨⟨hT, hH, h5, h6, by omega, by omega, by omega, by omega, by omega⟩, hbc⟩ | exact tail T H X5 X6 W1 ⟨⟨hT, hH, h5, h6, by omega, by omega, by omega, by omega, by omega⟩, hbc⟩ | exact tail T H X5 X6 W3 ⟨⟨hT, hH, h5, h6, by omega, by omega, by omega, by omega, by omega⟩, hbc⟩ | exact tail T H X5 X6 W4 ⟨⟨hT, hH, h5, h6, by omega, by omega, by omega, by omega, by omega⟩, hbc⟩ | exact tail T H X5 X6 W5 ⟨⟨hT, hH, h5, h6, by omega, by omega, by omega, by omega, by omega⟩, hbc⟩
     ·have c5 := cell_at h5 0 rfl
      have f5 := free_of h5 0; go_simp; obtain ⟨W6, e6, h5n, hk6, hb6⟩ := set_box h5 (.slice (some ⟨T, 0, none⟩) P P); rw [e6]; clear e6 c5 f5; replace hT := hk6 _ _ hT (by omega)
      try replace hH := hk6 _ _ hH (by omega)
      try replace h6 := hk6 _ _ h6 (by omega)
      replace h5 := h5n; replace hbc := hb6 _ _ zX5 hbc; replace hC := HS.out _ hbc; clear h5n hk6 hb6; refine hK.out _ _ (fun _ => ?_) ?_
      ·(exact hC)
      clear hK K; try simp only [sEt, sE0, sE1]
      refine readyC (rs := [3]) (by kernel_rfl) (by simp) (each_cons (runC o80_1_3 (by rfl) (fun K hK => ?_)) each_nil)
      go_simp; obtain ⟨H, W3, eH, fH, hH, hbH⟩ := any_box _ (.cells (madeCells #[.int .i64 0] P) 3); rw [fH, eH]; clear fH; have zH : V.heap.size ≤ H := by rw [← eH]; exact hbc.size
      try have lTH : T < H := by have := lt_of_heap hT; omega
      try replace hT := keep_heap hT hbH
      try have lX5H : X5 < H := by have := lt_of_heap h5; omega
      try replace h5 := keep_heap h5 hbH
      try have lX6H : X6 < H := by have := lt_of_heap h6; omega
      try replace h6 := keep_heap h6 hbH
      replace hbc := below_step hbc hbH; replace hC := HS.out _ hbc; clear eH hbH; go_wp2_with fail
      refine hK.out _ _ (fun _ => ?_) ?_
      ·(exact hC)
      clear hK K; try simp only [Act.put, sEt, sE0, sE1]
      refine sameC (l' := (bQ 8 127)) (by kernel_rfl) ?_
      first | exact tail T H X5 X6 W6 ⟨⟨hT, hH, h5, h6, by omega, by omega, by omega, by omega, by omega⟩, hbc⟩ | exact tail T H X5 X6 W1 ⟨⟨hT, hH, h5, h6, by omega, by omega, by omega, by omega, by omega⟩, hbc⟩ | exact tail T H X5 X6 W3 ⟨⟨hT, hH, h5, h6, by omega, by omega, by omega, by omega, by omega⟩, hbc⟩ | exact tail T H X5 X6 W4 ⟨⟨hT, hH, h5, h6, by omega, by omega, by omega, by omega, by omega⟩, hbc⟩ | exact tail T H X5 X6 W5 ⟨⟨hT, hH, h5, h6, by omega, by omega, by omega, by omega, by omega⟩, hbc⟩
   ·go_simp
    obtain ⟨X6, W5, eX6, fX6, h6, hbX6⟩ := any_box _ (.cells #[.slice none 0 0] 22); rw [fX6, eX6]; clear fX6; have zX6 : V.heap.size ≤ X6 := by rw [← eX6]; exact hbc.size
    try have lTX6 : T < X6 := by have := lt_of_heap hT; omega
    try replace hT := keep_heap hT hbX6
    try have lHX6 : H < X6 := by have := lt_of_heap hH; omega
    try replace hH := keep_heap hH hbX6
    try have lX5X6 : X5 < X6 := by have := lt_of_heap h5; omega
    try replace h5 := keep_heap h5 hbX6
    replace hbc := below_step hbc hbX6; replace hC := HS.out _ hbc; clear eX6 hbX6; go_wp2_with fail
    refine hK.out _ _ (fun _ => ?_) ?_
    ·(exact hC)
    clear hK K; try simp only [Act.put, sEt, sE0, sE1]
    refine readyC (rs := [3, 4]) (by kernel_rfl) (by simp) (each_cons (runC o80_1_3 (by rfl) (fun K hK => ?_)) (each_cons (runC o80_1_4 (by rfl) (fun K hK => ?_)) each_nil))
    ·go_simp
     obtain ⟨H, W3, eH, fH, hH, hbH⟩ := any_box _ (.cells (madeCells #[.int .i64 0] P) 3); rw [fH, eH]; clear fH; have zH : V.heap.size ≤ H := by rw [← eH]; exact hbc.size
     try have lTH : T < H := by have := lt_of_heap hT; omega
     try replace hT := keep_heap hT hbH
     try have lX5H : X5 < H := by have := lt_of_heap h5; omega
     try replace h5 := keep_heap h5 hbH
     try have lX6H : X6 < H := by have := lt_of_heap h6; omega
     try replace h6 := keep_heap h6 hbH
     replace hbc := below_step hbc hbH; replace hC := HS.out _ hbc; clear eH hbH; go_wp2_with fail
     refine hK.out _ _ (fun _ => ?_) ?_
     ·(exact hC)
     clear hK K; try simp only [Act.put, sEt, sE0, sE1]
     refine readyC (rs := [4]) (by kernel_rfl) (by simp) (each_cons (runC o80_1_4 (by rfl) (fun K hK => ?_)) each_nil)
     go_simp; obtain ⟨X5, W4, eX5, fX5, h5, hbX5⟩ := any_box _ (.cells #[.slice none 0 0] 152); rw [fX5, eX5]; clear fX5; have zX5 : V.heap.size ≤ X5 := by rw [← eX5]; exact hbc.size
     try have lTX5 : T < X5 := by have := lt_of_heap hT; omega
     try replace hT := keep_heap hT hbX5
     try have lHX5 : H < X5 := by have := lt_of_heap hH; omega
     try replace hH := keep_heap hH hbX5
     try have lX6X5 : X6 < X5 := by have := lt_of_heap h6; omega
     try replace h6 := keep_heap h6 hbX5
     replace hbc := below_step hbc hbX5; replace hC := HS.out _ hbc; clear eX5 hbX5; go_wp2_with fail
     refine hK.out _ _ (fun _ => ?_) ?_
     ·(exact hC)
     clear hK K; try simp only [Act.put, sEt, sE0, sE1]
     refine readyC (rs := [6]) (by kernel_rfl) (by simp) (each_cons (runC o80_1_6 (by rfl) (fun K hK => ?_)) each_nil)
     have c5 := cell_at h5 0 rfl; have f5 := free_of h5 0; go_simp; obtain ⟨W6, e6, h5n, hk6, hb6⟩ := set_box h5 (.slice (some ⟨T, 0, none⟩) P P); rw [e6]; clear e6 c5 f5; replace hT := hk6 _ _ hT (by omega)
     try replace hH := hk6 _ _ hH (by omega)
     try replace h6 := hk6 _ _ h6 (by omega)
     replace h5 := h5n; replace hbc := hb6 _ _ zX5 hbc; replace hC := HS.out _ hbc; clear h5n hk6 hb6; refine hK.out _ _ (fun _ => ?_) ?_
     ·(exact hC)
     clear hK K; try simp only [sEt, sE0, sE1]
     refine sameC (l' := (bQ 8 127)) (by kernel_rfl) ?_
     first | exact tail T H X5 X6 W6 ⟨⟨hT, hH, h5, h6, by omega, by omega, by omega, by omega, by omega⟩, hbc⟩ | exact tail T H X5 X6 W1 ⟨⟨hT, hH, h5, h6, by omega, by omega, by omega, by omega, by omega⟩, hbc⟩ | exact tail T H X5 X6 W3 ⟨⟨hT, hH, h5, h6, by omega, by omega, by omega, by omega, by omega⟩, hbc⟩ | exact tail T H X5 X6 W4 ⟨⟨hT, hH, h5, h6, by omega, by omega, by omega, by omega, by omega⟩, hbc⟩ | exact tail T H X5 X6 W5 ⟨⟨hT, hH, h5, h6, by omega, by omega, by omega, by omega, by omega⟩, hbc⟩
    ·go_simp
     obtain ⟨X5, W4, eX5, fX5, h5, hbX5⟩ := any_box _ (.cells #[.slice none 0 0] 152); rw [fX5, eX5]; clear fX5; have zX5 : V.heap.size ≤ X5 := by rw [← eX5]; exact hbc.size
     try have lTX5 : T < X5 := by have := lt_of_heap hT; omega
     try replace hT := keep_heap hT hbX5
     try have lHX5 : H < X5 := by have := lt_of_heap hH; omega
     try replace hH := keep_heap hH hbX5
     try have lX6X5 : X6 < X5 := by have := lt_of_heap h6; omega
     try replace h6 := keep_heap h6 hbX5
     replace hbc := below_step hbc hbX5; replace hC := HS.out _ hbc; clear eX5 hbX5; go_wp2_with fail
     refine hK.out _ _ (fun _ => ?_) ?_
     ·(exact hC)
     clear hK K; try simp only [Act.put, sEt, sE0, sE1]
     refine readyC (rs := [3, 6]) (by kernel_rfl) (by simp) (each_cons (runC o80_1_3 (by rfl) (fun K hK => ?_)) (each_cons (runC o80_1_6 (by rfl) (fun K hK => ?_)) each_nil))
     ·go_simp
      obtain ⟨H, W3, eH, fH, hH, hbH⟩ := any_box _ (.cells (madeCells #[.int .i64 0] P) 3); rw [fH, eH]; clear fH; have zH : V.heap.size ≤ H := by rw [← eH]; exact hbc.size
      try have lTH : T < H := by have := lt_of_heap hT; omega
      try replace hT := keep_heap hT hbH
      try have lX5H : X5 < H := by have := lt_of_heap h5; omega
      try replace h5 := keep_heap h5 hbH
      try have lX6H : X6 < H := by have := lt_of_heap h6; omega
      try replace h6 := keep_heap h6 hbH
      replace hbc := below_step hbc hbH; replace hC := HS.out _ hbc; clear eH hbH; go_wp2_with fail
      refine hK.out _ _ (fun _ => ?_) ?_
      ·(exact hC)
      clear hK K; try simp only [Act.put, sEt, sE0, sE1]
      refine readyC (rs := [6]) (by kernel_rfl) (by simp) (each_cons (runC o80_1_6 (by rfl) (fun K hK => ?_)) each_nil)
      have c5 := cell_at h5 0 rfl; have f5 := free_of h5 0; go_simp; obtain ⟨W6, e6, h5n, hk6, hb6⟩ := set_box h5 (.slice (some ⟨T, 0, none⟩) P P); rw [e6]; clear e6 c5 f5; replace hT := hk6 _ _ hT (by omega)
      try replace hH := hk6 _ _ hH (by omega)
      try replace h6 := hk6 _ _ h6 (by omega)
      replace h5 := h5n; replace hbc := hb6 _ _ zX5 hbc; replace hC := HS.out _ hbc; clear h5n hk6 hb6; refine hK.out _ _ (fun _ => ?_) ?_
      ·(exact hC)
      clear hK K; try simp only [sEt, sE0, sE1]
      refine sameC (l' := (bQ 8 127)) (by kernel_rfl) ?_
      first | exact tail T H X5 X6 W6 ⟨⟨hT, hH, h5, h6, by omega, by omega, by omega, by omega, by omega⟩, hbc⟩ | exact tail T H X5 X6 W1 ⟨⟨hT, hH, h5, h6, by omega, by omega, by omega, by omega, by omega⟩, hbc⟩ | exact tail T H X5 X6 W3 ⟨⟨hT, hH, h5, h6, by omega, by omega, by omega, by omega, by omega⟩, hbc⟩ | exact tail T H X5 X6 W4 ⟨⟨hT, hH, h5, h6, by omega, by omega, by omega, by omega, by omega⟩, hbc⟩ | exact tail T H X5 X6 W5 ⟨⟨hT, hH, h5, h6, by omega, by omega, by omega, by omega, by omega⟩, hbc⟩
     ·have c5 := cell_at h5 0 rfl
      have f5 := free_of h5 0; go_simp; obtain ⟨W6, e6, h5n, hk6, hb6⟩ := set_box h5 (.slice (some ⟨T, 0, none⟩) P P); rw [e6]; clear e6 c5 f5; replace hT := hk6 _ _ hT (by omega)
      try replace hH := hk6 _ _ hH (by omega)
      try replace h6 := hk6 _ _ h6 (by omega)
      replace h5 := h5n; replace hbc := hb6 _ _ zX5 hbc; replace hC := HS.out _ hbc; clear h5n hk6 hb6; refine hK.out _ _ (fun _ => ?_) ?_
      ·(exact hC)
      clear hK K; try simp only [sEt, sE0, sE1]
      refine readyC (rs := [3]) (by kernel_rfl) (by simp) (each_cons (runC o80_1_3 (by rfl) (fun K hK => ?_)) each_nil)
      go_simp; obtain ⟨H, W3, eH, fH, hH, hbH⟩ := any_box _ (.cells (madeCells #[.int .i64 0] P) 3); rw [fH, eH]; clear fH; have zH : V.heap.size ≤ H := by rw [← eH]; exact hbc.size
      try have lTH : T < H := by have := lt_of_heap hT; omega
      try replace hT := keep_heap hT hbH
      try have lX5H : X5 < H := by have := lt_of_heap h5; omega
      try replace h5 := keep_heap h5 hbH
      try have lX6H : X6 < H := by have := lt_of_heap h6; omega
      try replace h6 := keep_heap h6 hbH
      replace hbc := below_step hbc hbH; replace hC := HS.out _ hbc; clear eH hbH; go_wp2_with fail
      refine hK.out _ _ (fun _ => ?_) ?_
      ·(exact hC)
      clear hK K; try simp only [Act.put, sEt, sE0, sE1]
      refine sameC (l' := (bQ 8 127)) (by kernel_rfl) ?_
      first | exact tail T H X5 X6 W6 ⟨⟨hT, hH, h5, h6, by omega, by omega, by omega, by omega, by omega⟩, hbc⟩ | exact tail T H X5 X6 W1 ⟨⟨hT, hH, h5, h6, by omega, by omega, by omega, by omega, by omega⟩, hbc⟩ | exact tail T H X5 X6 W3 ⟨⟨hT, hH, h5, h6, by omega, by omega, by omega, by omega, by omega⟩, hbc⟩ | exact tail T H X5 X6 W4 ⟨⟨hT, hH, h5, h6, by omega, by omega, by omega, by omega, by omega⟩, hbc⟩ | exact tail T H X5 X6 W5 ⟨⟨hT, hH, h5, h6, by omega, by omega, by omega, by omega, by omega⟩, hbc⟩
  ·go_simp
   obtain ⟨H, W3, eH, fH, hH, hbH⟩ := any_box _ (.cells (madeCells #[.int .i64 0] P) 3); rw [fH, eH]; clear fH; have zH : V.heap.size ≤ H := by rw [← eH]; exact hbc.size
   try have lTH : T < H := by have := lt_of_heap hT; omega
   try replace hT := keep_heap hT hbH
   try have lX5H : X5 < H := by have := lt_of_heap h5; omega
   try replace h5 := keep_heap h5 hbH
   try have lX6H : X6 < H := by have := lt_of_heap h6; omega
   try replace h6 := keep_heap h6 hbH
   replace hbc := below_step hbc hbH; replace hC := HS.out _ hbc; clear eH hbH; go_wp2_with fail
   refine hK.out _ _ (fun _ => ?_) ?_
   ·(exact hC)
   clear hK K; try simp only [Act.put, sEt, sE0, sE1]
   refine readyC (rs := [1, 4, 5]) (by kernel_rfl) (by simp) (each_cons (runC o80_1_1 (by rfl) (fun K hK => ?_)) (each_cons (runC o80_1_4 (by rfl) (fun K hK => ?_)) (each_cons (runC o80_1_5 (by rfl) (fun K hK => ?_)) each_nil)))
   ·go_simp
    obtain ⟨T, W1, eT, fT, hT, hbT⟩ := any_box _ (.cells (madeCells #[.bool false] P) 4); rw [fT, eT]; clear fT; have zT : V.heap.size ≤ T := by rw [← eT]; exact hbc.size
    try have lHT : H < T := by have := lt_of_heap hH; omega
    try replace hH := keep_heap hH hbT
    try have lX5T : X5 < T := by have := lt_of_heap h5; omega
    try replace h5 := keep_heap h5 hbT
    try have lX6T : X6 < T := by have := lt_of_heap h6; omega
    try replace h6 := keep_heap h6 hbT
    replace hbc := below_step hbc hbT; replace hC := HS.out _ hbc; clear eT hbT; go_wp2_with fail
    refine hK.out _ _ (fun _ => ?_) ?_
    ·(exact hC)
    clear hK K; try simp only [Act.put, sEt, sE0, sE1]
    refine readyC (rs := [4, 5]) (by kernel_rfl) (by simp) (each_cons (runC o80_1_4 (by rfl) (fun K hK => ?_)) (each_cons (runC o80_1_5 (by rfl) (fun K hK => ?_)) each_nil))
    ·go_simp
     obtain ⟨X5, W4, eX5, fX5, h5, hbX5⟩ := any_box _ (.cells #[.slice none 0 0] 152); rw [fX5, eX5]; clear fX5; have zX5 : V.heap.size ≤ X5 := by rw [← eX5]; exact hbc.size
     try have lTX5 : T < X5 := by have := lt_of_heap hT; omega
     try replace hT := keep_heap hT hbX5
     try have lHX5 : H < X5 := by have := lt_of_heap hH; omega
     try replace hH := keep_heap hH hbX5
     try have lX6X5 : X6 < X5 := by have := lt_of_heap h6; omega
     try replace h6 := keep_heap h6 hbX5
     replace hbc := below_step hbc hbX5; replace hC := HS.out _ hbc; clear eX5 hbX5; go_wp2_with fail
     refine hK.out _ _ (fun _ => ?_) ?_
     ·(exact hC)
     clear hK K; try simp only [Act.put, sEt, sE0, sE1]
     refine readyC (rs := [5]) (by kernel_rfl) (by simp) (each_cons (runC o80_1_5 (by rfl) (fun K hK => ?_)) each_nil)
     go_simp; obtain ⟨X6, W5, eX6, fX6, h6, hbX6⟩ := any_box _ (.cells #[.slice none 0 0] 22); rw [fX6, eX6]; clear fX6; have zX6 : V.heap.size ≤ X6 := by rw [← eX6]; exact hbc.size
     try have lTX6 : T < X6 := by have := lt_of_heap hT; omega
     try replace hT := keep_heap hT hbX6
     try have lHX6 : H < X6 := by have := lt_of_heap hH; omega
     try replace hH := keep_heap hH hbX6
     try have lX5X6 : X5 < X6 := by have := lt_of_heap h5; omega
     try replace h5 := keep_heap h5 hbX6
     replace hbc := below_step hbc hbX6; replace hC := HS.out _ hbc; clear eX6 hbX6; go_wp2_with fail
     refine hK.out _ _ (fun _ => ?_) ?_
     ·(exact hC)
     clear hK K; try simp only [Act.put, sEt, sE0, sE1]
     refine readyC (rs := [6]) (by kernel_rfl) (by simp) (each_cons (runC o80_1_6 (by rfl) (fun K hK => ?_)) each_nil)
     have c5 := cell_at h5 0 rfl; have f5 := free_of h5 0; go_simp; obtain ⟨W6, e6, h5n, hk6, hb6⟩ := set_box h5 (.slice (some ⟨T, 0, none⟩) P P); rw [e6]; clear e6 c5 f5; replace hT := hk6 _ _ hT (by omega)
     try replace hH := hk6 _ _ hH (by omega)
     try replace h6 := hk6 _ _ h6 (by omega)
     replace h5 := h5n; replace hbc := hb6 _ _ zX5 hbc; replace hC := HS.out _ hbc; clear h5n hk6 hb6; refine hK.out _ _ (fun _ => ?_) ?_
     ·(exact hC)
     clear hK K; try simp only [sEt, sE0, sE1]
     refine sameC (l' := (bQ 8 127)) (by kernel_rfl) ?_
     first | exact tail T H X5 X6 W6 ⟨⟨hT, hH, h5, h6, by omega, by omega, by omega, by omega, by omega⟩, hbc⟩ | exact tail T H X5 X6 W1 ⟨⟨hT, hH, h5, h6, by omega, by omega, by omega, by omega, by omega⟩, hbc⟩ | exact tail T H X5 X6 W3 ⟨⟨hT, hH, h5, h6, by omega, by omega, by omega, by omega, by omega⟩, hbc⟩ | exact tail T H X5 X6 W4 ⟨⟨hT, hH, h5, h6, by omega, by omega, by omega, by omega, by omega⟩, hbc⟩ | exact tail T H X5 X6 W5 ⟨⟨hT, hH, h5, h6, by omega, by omega, by omega, by omega, by omega⟩, hbc⟩
    ·go_simp
     obtain ⟨X6, W5, eX6, fX6, h6, hbX6⟩ := any_box _ (.cells #[.slice none 0 0] 22); rw [fX6, eX6]; clear fX6; have zX6 : V.heap.size ≤ X6 := by rw [← eX6]; exact hbc.size
     try have lTX6 : T < X6 := by have := lt_of_heap hT; omega
     try replace hT := keep_heap hT hbX6
     try have lHX6 : H < X6 := by have := lt_of_heap hH; omega
     try replace hH := keep_heap hH hbX6
     try have lX5X6 : X5 < X6 := by have := lt_of_heap h5; omega
     try replace h5 := keep_heap h5 hbX6
     replace hbc := below_step hbc hbX6; replace hC := HS.out _ hbc; clear eX6 hbX6; go_wp2_with fail
     refine hK.out _ _ (fun _ => ?_) ?_
     ·(exact hC)
     clear hK K; try simp only [Act.put, sEt, sE0, sE1]
     refine readyC (rs := [4]) (by kernel_rfl) (by simp) (each_cons (runC o80_1_4 (by rfl) (fun K hK => ?_)) each_nil)
     go_simp; obtain ⟨X5, W4, eX5, fX5, h5, hbX5⟩ := any_box _ (.cells #[.slice none 0 0] 152); rw [fX5, eX5]; clear fX5; have zX5 : V.heap.size ≤ X5 := by rw [← eX5]; exact hbc.size
     try have lTX5 : T < X5 := by have := lt_of_heap hT; omega
     try replace hT := keep_heap hT hbX5
     try have lHX5 : H < X5 := by have := lt_of_heap hH; omega
     try replace hH := keep_heap hH hbX5
     try have lX6X5 : X6 < X5 := by have := lt_of_heap h6; omega
     try replace h6 := keep_heap h6 hbX5
     replace hbc := below_step hbc hbX5; replace hC := HS.out _ hbc; clear eX5 hbX5; go_wp2_with fail
     refine hK.out _ _ (fun _ => ?_) ?_
     ·(exact hC)
     clear hK K; try simp only [Act.put, sEt, sE0, sE1]
     refine readyC (rs := [6]) (by kernel_rfl) (by simp) (each_cons (runC o80_1_6 (by rfl) (fun K hK => ?_)) each_nil)
     have c5 := cell_at h5 0 rfl; have f5 := free_of h5 0; go_simp; obtain ⟨W6, e6, h5n, hk6, hb6⟩ := set_box h5 (.slice (some ⟨T, 0, none⟩) P P); rw [e6]; clear e6 c5 f5; replace hT := hk6 _ _ hT (by omega)
     try replace hH := hk6 _ _ hH (by omega)
     try replace h6 := hk6 _ _ h6 (by omega)
     replace h5 := h5n; replace hbc := hb6 _ _ zX5 hbc; replace hC := HS.out _ hbc; clear h5n hk6 hb6; refine hK.out _ _ (fun _ => ?_) ?_
     ·(exact hC)
     clear hK K; try simp only [sEt, sE0, sE1]
     refine sameC (l' := (bQ 8 127)) (by kernel_rfl) ?_
     first | exact tail T H X5 X6 W6 ⟨⟨hT, hH, h5, h6, by omega, by omega, by omega, by omega, by omega⟩, hbc⟩ | exact tail T H X5 X6 W1 ⟨⟨hT, hH, h5, h6, by omega, by omega, by omega, by omega, by omega⟩, hbc⟩ | exact tail T H X5 X6 W3 ⟨⟨hT, hH, h5, h6, by omega, by omega, by omega, by omega, by omega⟩, hbc⟩ | exact tail T H X5 X6 W4 ⟨⟨hT, hH, h5, h6, by omega, by omega, by omega, by omega, by omega⟩, hbc⟩ | exact tail T H X5 X6 W5 ⟨⟨hT, hH, h5, h6, by omega, by omega, by omega, by omega, by omega⟩, hbc⟩
   ·go_simp
    obtain ⟨X5, W4, eX5, fX5, h5, hbX5⟩ := any_box _ (.cells #[.slice none 0 0] 152); rw [fX5, eX5]; clear fX5; have zX5 : V.heap.size ≤ X5 := by rw [← eX5]; exact hbc.size
    try have lTX5 : T < X5 := by have := lt_of_heap hT; omega
    try replace hT := keep_heap hT hbX5
    try have lHX5 : H < X5 := by have := lt_of_heap hH; omega
    try replace hH := keep_heap hH hbX5
    try have lX6X5 : X6 < X5 := by have := lt_of_heap h6; omega
    try replace h6 := keep_heap h6 hbX5
    replace hbc := below_step hbc hbX5; replace hC := HS.out _ hbc; clear eX5 hbX5; go_wp2_with fail
    refine hK.out _ _ (fun _ => ?_) ?_
    ·(exact hC)
    clear hK K; try simp only [Act.put, sEt, sE0, sE1]
    refine readyC (rs := [1, 5]) (by kernel_rfl) (by simp) (each_cons (runC o80_1_1 (by rfl) (fun K hK => ?_)) (each_cons (runC o80_1_5 (by rfl) (fun K hK => ?_)) each_nil))
    ·go_simp
     obtain ⟨T, W1, eT, fT, hT, hbT⟩ := any_box _ (.cells (madeCells #[.bool false] P) 4); rw [fT, eT]; clear fT; have zT : V.heap.size ≤ T := by rw [← eT]; exact hbc.size
     try have lHT : H < T := by have := lt_of_heap hH; omega
     try replace hH := keep_heap hH hbT
     try have lX5T : X5 < T := by have := lt_of_heap h5; omega
     try replace h5 := keep_heap h5 hbT
     try have lX6T : X6 < T := by have := lt_of_heap h6; omega
     try replace h6 := keep_heap h6 hbT
     replace hbc := below_step hbc hbT; replace hC := HS.out _ hbc; clear eT hbT; go_wp2_with fail
     refine hK.out _ _ (fun _ => ?_) ?_
     ·(exact hC)
     clear hK K; try simp only [Act.put, sEt, sE0, sE1]
     refine readyC (rs := [5]) (by kernel_rfl) (by simp) (each_cons (runC o80_1_5 (by rfl) (fun K hK => ?_)) each_nil)
     go_simp; obtain ⟨X6, W5, eX6, fX6, h6, hbX6⟩ := any_box _ (.cells #[.slice none 0 0] 22); rw [fX6, eX6]; clear fX6; have zX6 : V.heap.size ≤ X6 := by rw [← eX6]; exact hbc.size
     try have lTX6 : T < X6 := by have := lt_of_heap hT; omega
     try replace hT := keep_heap hT hbX6
     try have lHX6 : H < X6 := by have := lt_of_heap hH; omega
     try replace hH := keep_heap hH hbX6
     try have lX5X6 : X5 < X6 := by have := lt_of_heap h5; omega
     try replace h5 := keep_heap h5 hbX6
     replace hbc := below_step hbc hbX6; replace hC := HS.out _ hbc; clear eX6 hbX6; go_wp2_with fail
     refine hK.out _ _ (fun _ => ?_) ?_
     ·(exact hC)
     clear hK K; try simp only [Act.put, sEt, sE0, sE1]
     refine readyC (rs := [6]) (by kernel_rfl) (by simp) (each_cons (runC o80_1_6 (by rfl) (fun K hK => ?_)) each_nil)
     have c5 := cell_at h5 0 rfl; have f5 := free_of h5 0; go_simp; obtain ⟨W6, e6, h5n, hk6, hb6⟩ := set_box h5 (.slice (some ⟨T, 0, none⟩) P P); rw [e6]; clear e6 c5 f5; replace hT := hk6 _ _ hT (by omega)
     try replace hH := hk6 _ _ hH (by omega)
     try replace h6 := hk6 _ _ h6 (by omega)
     replace h5 := h5n; replace hbc := hb6 _ _ zX5 hbc; replace hC := HS.out _ hbc; clear h5n hk6 hb6; refine hK.out _ _ (fun _ => ?_) ?_
     ·(exact hC)
     clear hK K; try simp only [sEt, sE0, sE1]
     refine sameC (l' := (bQ 8 127)) (by kernel_rfl) ?_
     first | exact tail T H X5 X6 W6 ⟨⟨hT, hH, h5, h6, by omega, by omega, by omega, by omega, by omega⟩, hbc⟩ | exact tail T H X5 X6 W1 ⟨⟨hT, hH, h5, h6, by omega, by omega, by omega, by omega, by omega⟩, hbc⟩ | exact tail T H X5 X6 W3 ⟨⟨hT, hH, h5, h6, by omega, by omega, by omega, by omega, by omega⟩, hbc⟩ | exact tail T H X5 X6 W4 ⟨⟨hT, hH, h5, h6, by omega, by omega, by omega, by omega, by omega⟩, hbc⟩ | exact tail T H X5 X6 W5 ⟨⟨hT, hH, h5, h6, by omega, by omega, by omega, by omega, by omega⟩, hbc⟩
    ·go_simp
     obtain ⟨X6, W5, eX6, fX6, h6, hbX6⟩ := any_box _ (.cells #[.slice none 0 0] 22); rw [fX6, eX6]; clear fX6; have zX6 : V.heap.size ≤ X6 := by rw [← eX6]; exact hbc.size
     try have lTX6 : T < X6 := by have := lt_of_heap hT; omega
     try replace hT := keep_heap hT hbX6
     try have lHX6 : H < X6 := by have := lt_of_heap hH; omega
     try replace hH := keep_heap hH hbX6
     try have lX5X6 : X5 < X6 := by have := lt_of_heap h5; omega
     try replace h5 := keep_heap h5 hbX6
     replace hbc := below_step hbc hbX6; replace hC := HS.out _ hbc; clear eX6 hbX6; go_wp2_with fail
     refine hK.out _ _ (fun _ => ?_) ?_
     ·(exact hC)
     clear hK K; try simp only [Act.put, sEt, sE0, sE1]
     refine readyC (rs := [1]) (by kernel_rfl) (by simp) (each_cons (runC o80_1_1 (by rfl) (fun K hK => ?_)) each_nil)
     go_simp; obtain ⟨T, W1, eT, fT, hT, hbT⟩ := any_box _ (.cells (madeCells #[.bool false] P) 4); rw [fT, eT]; clear fT; have zT : V.heap.size ≤ T := by rw [← eT]; exact hbc.size
     try have lHT : H < T := by have := lt_of_heap hH; omega
     try replace hH := keep_heap hH hbT
     try have lX5T : X5 < T := by have := lt_of_heap h5; omega
     try replace h5 := keep_heap h5 hbT
     try have lX6T : X6 < T := by have := lt_of_heap h6; omega
     try replace h6 := keep_heap h6 hbT
     replace hbc := below_step hbc hbT; replace hC := HS.out _ hbc; clear eT hbT; go_wp2_with fail
     refine hK.out _ _ (fun _ => ?_) ?_
     ·(exact hC)
     clear hK K; try simp only [Act.put, sEt, sE0, sE1]
     refine readyC (rs := [6]) (by kernel_rfl) (by simp) (each_cons (runC o80_1_6 (by rfl) (fun K hK => ?_)) each_nil)
     have c5 := cell_at h5 0 rfl; have f5 := free_of h5 0; go_simp; obtain ⟨W6, e6, h5n, hk6, hb6⟩ := set_box h5 (.slice (some ⟨T, 0, none⟩) P P); rw [e6]; clear e6 c5 f5; replace hT := hk6 _ _ hT (by omega)
     try replace hH := hk6 _ _ hH (by omega)
     try replace h6 := hk6 _ _ h6 (by omega)
     replace h5 := h5n; replace hbc := hb6 _ _ zX5 hbc; replace hC := HS.out _ hbc; clear h5n hk6 hb6; refine hK.out _ _ (fun _ => ?_) ?_
     ·(exact hC)
     clear hK K; try simp only [sEt, sE0, sE1]
     refine sameC (l' := (bQ 8 127)) (by kernel_rfl) ?_
     first | exact tail T H X5 X6 W6 ⟨⟨hT, hH, h5, h6, by omega, by omega, by omega, by omega, by omega⟩, hbc⟩ | exact tail T H X5 X6 W1 ⟨⟨hT, hH, h5, h6, by omega, by omega, by omega, by omega, by omega⟩, hbc⟩ | exact tail T H X5 X6 W3 ⟨⟨hT, hH, h5, h6, by omega, by omega, by omega, by omega, by omega⟩, hbc⟩ | exact tail T H X5 X6 W4 ⟨⟨hT, hH, h5, h6, by omega, by omega, by omega, by omega, by omega⟩, hbc⟩ | exact tail T H X5 X6 W5 ⟨⟨hT, hH, h5, h6, by omega, by omega, by omega, by omega, by omega⟩, hbc⟩
   ·go_simp
    obtain ⟨X6, W5, eX6, fX6, h6, hbX6⟩ := any_box _ (.cells #[.slice none 0 0] 22); rw [fX6, eX6]; clear fX6; have zX6 : V.heap.size ≤ X6 := by rw [← eX6]; exact hbc.size
    try have lTX6 : T < X6 := by have := lt_of_heap hT; omega
    try replace hT := keep_heap hT hbX6
    try have lHX6 : H < X6 := by have := lt_of_heap hH; omega
    try replace hH := keep_heap hH hbX6
    try have lX5X6 : X5 < X6 := by have := lt_of_heap h5; omega
    try replace h5 := keep_heap h5 hbX6
    replace hbc := below_step hbc hbX6; replace hC := HS.out _ hbc; clear eX6 hbX6; go_wp2_with fail
    refine hK.out _ _ (fun _ => ?_) ?_
    ·(exact hC)
    clear hK K; try simp only [Act.put, sEt, sE0, sE1]
    refine readyC (rs := [1, 4]) (by kernel_rfl) (by simp) (each_cons (runC o80_1_1 (by rfl) (fun K hK => ?_)) (each_cons (runC o80_1_4 (by rfl) (fun K hK => ?_)) each_nil))
    ·go_simp
     obtain ⟨T, W1, eT, fT, hT, hbT⟩ := any_box _ (.cells (madeCells #[.bool false] P) 4); rw [fT, eT]; clear fT; have zT : V.heap.size ≤ T := by rw [← eT]; exact hbc.size
     try have lHT : H < T := by have := lt_of_heap hH; omega
     try replace hH := keep_heap hH hbT
     try have lX5T : X5 < T := by have := lt_of_heap h5; omega
     try replace h5 := keep_heap h5 hbT
     try have lX6T : X6 < T := by have := lt_of_heap h6; omega
     try replace h6 := keep_heap h6 hbT
     replace hbc := below_step hbc hbT; replace hC := HS.out _ hbc; clear eT hbT; go_wp2_with fail
     refine hK.out _ _ (fun _ => ?_) ?_
     ·(exact hC)
     clear hK K; try simp only [Act.put, sEt, sE0, sE1]
     refine readyC (rs := [4]) (by kernel_rfl) (by simp) (each_cons (runC o80_1_4 (by rfl) (fun K hK => ?_)) each_nil)
     go_simp; obtain ⟨X5, W4, eX5, fX5, h5, hbX5⟩ := any_box _ (.cells #[.slice none 0 0] 152); rw [fX5, eX5]; clear fX5; have zX5 : V.heap.size ≤ X5 := by rw [← eX5]; exact hbc.size
     try have lTX5 : T < X5 := by have := lt_of_heap hT; omega
     try replace hT := keep_heap hT hbX5
     try have lHX5 : H < X5 := by have := lt_of_heap hH; omega
     try replace hH := keep_heap hH hbX5
     try have lX6X5 : X6 < X5 := by have := lt_of_heap h6; omega
     try replace h6 := keep_heap h6 hbX5
     replace hbc := below_step hbc hbX5; replace hC := HS.out _ hbc; clear eX5 hbX5; go_wp2_with fail
     refine hK.out _ _ (fun _ => ?_) ?_
     ·(exact hC)
     clear hK K; try simp only [Act.put, sEt, sE0, sE1]
     refine readyC (rs := [6]) (by kernel_rfl) (by simp) (each_cons (runC o80_1_6 (by rfl) (fun K hK => ?_)) each_nil)
     have c5 := cell_at h5 0 rfl; have f5 := free_of h5 0; go_simp; obtain ⟨W6, e6, h5n, hk6, hb6⟩ := set_box h5 (.slice (some ⟨T, 0, none⟩) P P); rw [e6]; clear e6 c5 f5; replace hT := hk6 _ _ hT (by omega)
     try replace hH := hk6 _ _ hH (by omega)
     try replace h6 := hk6 _ _ h6 (by omega)
     replace h5 := h5n; replace hbc := hb6 _ _ zX5 hbc; replace hC := HS.out _ hbc; clear h5n hk6 hb6; refine hK.out _ _ (fun _ => ?_) ?_
     ·(exact hC)
     clear hK K; try simp only [sEt, sE0, sE1]
     refine sameC (l' := (bQ 8 127)) (by kernel_rfl) ?_
     first | exact tail T H X5 X6 W6 ⟨⟨hT, hH, h5, h6, by omega, by omega, by omega, by omega, by omega⟩, hbc⟩ | exact tail T H X5 X6 W1 ⟨⟨hT, hH, h5, h6, by omega, by omega, by omega, by omega, by omega⟩, hbc⟩ | exact tail T H X5 X6 W3 ⟨⟨hT, hH, h5, h6, by omega, by omega, by omega, by omega, by omega⟩, hbc⟩ | exact tail T H X5 X6 W4 ⟨⟨hT, hH, h5, h6, by omega, by omega, by omega, by omega, by omega⟩, hbc⟩ | exact tail T H X5 X6 W5 ⟨⟨hT, hH, h5, h6, by omega, by omega, by omega, by omega, by omega⟩, hbc⟩
    ·go_simp
     obtain ⟨X5, W4, eX5, fX5, h5, hbX5⟩ := any_box _ (.cells #[.slice none 0 0] 152); rw [fX5, eX5]; clear fX5; have zX5 : V.heap.size ≤ X5 := by rw [← eX5]; exact hbc.size
     try have lTX5 : T < X5 := by have := lt_of_heap hT; omega
     try replace hT := keep_heap hT hbX5
     try have lHX5 : H < X5 := by have := lt_of_heap hH; omega
     try replace hH := keep_heap hH hbX5
     try have lX6X5 : X6 < X5 := by have := lt_of_heap h6; omega
     try replace h6 := keep_heap h6 hbX5
     replace hbc := below_step hbc hbX5; replace hC := HS.out _ hbc; clear eX5 hbX5; go_wp2_with fail
     refine hK.out _ _ (fun _ => ?_) ?_
     ·(exact hC)
     clear hK K; try simp only [Act.put, sEt, sE0, sE1]
     refine readyC (rs := [1]) (by kernel_rfl) (by simp) (each_cons (runC o80_1_1 (by rfl) (fun K hK => ?_)) each_nil)
     go_simp; obtain ⟨T, W1, eT, fT, hT, hbT⟩ := any_box _ (.cells (madeCells #[.bool false] P) 4); rw [fT, eT]; clear fT; have zT : V.heap.size ≤ T := by rw [← eT]; exact hbc.size
     try have lHT : H < T := by have := lt_of_heap hH; omega
     try replace hH := keep_heap hH hbT
     try have lX5T : X5 < T := by have := lt_of_heap h5; omega
     try replace h5 := keep_heap h5 hbT
     try have lX6T : X6 < T := by have := lt_of_heap h6; omega
     try replace h6 := keep_heap h6 hbT
     replace hbc := below_step hbc hbT; replace hC := HS.out _ hbc; clear eT hbT; go_wp2_with fail
     refine hK.out _ _ (fun _ => ?_) ?_
     ·(exact hC)
     clear hK K; try simp only [Act.put, sEt, sE0, sE1]
     refine readyC (rs := [6]) (by kernel_rfl) (by simp) (each_cons (runC o80_1_6 (by rfl) (fun K hK => ?_)) each_nil)
     have c5 := cell_at h5 0 rfl; have f5 := free_of h5 0; go_simp; obtain ⟨W6, e6, h5n, hk6, hb6⟩ := set_box h5 (.slice (some ⟨T, 0, none⟩) P P); rw [e6]; clear e6 c5 f5; replace hT := hk6 _ _ hT (by omega)
     try replace hH := hk6 _ _ hH (by omega)
     try replace h6 := hk6 _ _ h6 (by omega)
     replace h5 := h5n; replace hbc := hb6 _ _ zX5 hbc; replace hC := HS.out _ hbc; clear h5n hk6 hb6; refine hK.out _ _ (fun _ => ?_) ?_
     ·(exact hC)
     clear hK K; try simp only [sEt, sE0, sE1]
     refine sameC (l' := (bQ 8 127)) (by kernel_rfl) ?_
     first | exact tail T H X5 X6 W6 ⟨⟨hT, hH, h5, h6, by omega, by omega, by omega, by omega, by omega⟩, hbc⟩ | exact tail T H X5 X6 W1 ⟨⟨hT, hH, h5, h6, by omega, by omega, by omega, by omega, by omega⟩, hbc⟩ | exact tail T H X5 X6 W3 ⟨⟨hT, hH, h5, h6, by omega, by omega, by omega, by omega, by omega⟩, hbc⟩ | exact tail T H X5 X6 W4 ⟨⟨hT, hH, h5, h6, by omega, by omega, by omega, by omega, by omega⟩, hbc⟩ | exact tail T H X5 X6 W5 ⟨⟨hT, hH, h5, h6, by omega, by omega, by omega, by omega, by omega⟩, hbc⟩
  ·go_simp
   obtain ⟨X5, W4, eX5, fX5, h5, hbX5⟩ := any_box _ (.cells #[.slice none 0 0] 152); rw [fX5, eX5]; clear fX5; have zX5 : V.heap.size ≤ X5 := by rw [← eX5]; exact hbc.size
   try have lTX5 : T < X5 := by have := lt_of_heap hT; omega
   try replace hT := keep_heap hT hbX5
   try have lHX5 : H < X5 := by have := lt_of_heap hH; omega
   try replace hH := keep_heap hH hbX5
   try have lX6X5 : X6 < X5 := by have := lt_of_heap h6; omega
   try replace h6 := keep_heap h6 hbX5
   replace hbc := below_step hbc hbX5; replace hC := HS.out _ hbc; clear eX5 hbX5; go_wp2_with fail
   refine hK.out _ _ (fun _ => ?_) ?_
   ·(exact hC)
   clear hK K; try simp only [Act.put, sEt, sE0, sE1]
   refine readyC (rs := [1, 3, 5]) (by kernel_rfl) (by simp) (each_cons (runC o80_1_1 (by rfl) (fun K hK => ?_)) (each_cons (runC o80_1_3 (by rfl) (fun K hK => ?_)) (each_cons (runC o80_1_5 (by rfl) (fun K hK => ?_)) each_nil)))
   ·go_simp
    obtain ⟨T, W1, eT, fT, hT, hbT⟩ := any_box _ (.cells (madeCells #[.bool false] P) 4); rw [fT, eT]; clear fT; have zT : V.heap.size ≤ T := by rw [← eT]; exact hbc.size
    try have lHT : H < T := by have := lt_of_heap hH; omega
    try replace hH := keep_heap hH hbT
    try have lX5T : X5 < T := by have := lt_of_heap h5; omega
    try replace h5 := keep_heap h5 hbT
    try have lX6T : X6 < T := by have := lt_of_heap h6; omega
    try replace h6 := keep_heap h6 hbT
    replace hbc := below_step hbc hbT; replace hC := HS.out _ hbc; clear eT hbT; go_wp2_with fail
    refine hK.out _ _ (fun _ => ?_) ?_
    ·(exact hC)
    clear hK K; try simp only [Act.put, sEt, sE0, sE1]
    refine readyC (rs := [3, 5]) (by kernel_rfl) (by simp) (each_cons (runC o80_1_3 (by rfl) (fun K hK => ?_)) (each_cons (runC o80_1_5 (by rfl) (fun K hK => ?_)) each_nil))
    ·go_simp
     obtain ⟨H, W3, eH, fH, hH, hbH⟩ := any_box _ (.cells (madeCells #[.int .i64 0] P) 3); rw [fH, eH]; clear fH; have zH : V.heap.size ≤ H := by rw [← eH]; exact hbc.size
     try have lTH : T < H := by have := lt_of_heap hT; omega
     try replace hT := keep_heap hT hbH
     try have lX5H : X5 < H := by have := lt_of_heap h5; omega
     try replace h5 := keep_heap h5 hbH
     try have lX6H : X6 < H := by have := lt_of_heap h6; omega
     try replace h6 := keep_heap h6 hbH
     replace hbc := below_step hbc hbH; replace hC := HS.out _ hbc; clear eH hbH; go_wp2_with fail
     refine hK.out _ _ (fun _ => ?_) ?_
     ·(exact hC)
     clear hK K; try simp only [Act.put, sEt, sE0, sE1]
     refine readyC (rs := [5]) (by kernel_rfl) (by simp) (each_cons (runC o80_1_5 (by rfl) (fun K hK => ?_)) each_nil)
     go_simp; obtain ⟨X6, W5, eX6, fX6, h6, hbX6⟩ := any_box _ (.cells #[.slice none 0 0] 22); rw [fX6, eX6]; clear fX6; have zX6 : V.heap.size ≤ X6 := by rw [← eX6]; exact hbc.size
     try have lTX6 : T < X6 := by have := lt_of_heap hT; omega
     try replace hT := keep_heap hT hbX6
     try have lHX6 : H < X6 := by have := lt_of_heap hH; omega
     try replace hH := keep_heap hH hbX6
     try have lX5X6 : X5 < X6 := by have := lt_of_heap h5; omega
     try replace h5 := keep_heap h5 hbX6
     replace hbc := below_step hbc hbX6; replace hC := HS.out _ hbc; clear eX6 hbX6; go_wp2_with fail
     refine hK.out _ _ (fun _ => ?_) ?_
     ·(exact hC)
     clear hK K; try simp only [Act.put, sEt, sE0, sE1]
     refine readyC (rs := [6]) (by kernel_rfl) (by simp) (each_cons (runC o80_1_6 (by rfl) (fun K hK => ?_)) each_nil)
     have c5 := cell_at h5 0 rfl; have f5 := free_of h5 0; go_simp; obtain ⟨W6, e6, h5n, hk6, hb6⟩ := set_box h5 (.slice (some ⟨T, 0, none⟩) P P); rw [e6]; clear e6 c5 f5; replace hT := hk6 _ _ hT (by omega)
     try replace hH := hk6 _ _ hH (by omega)
     try replace h6 := hk6 _ _ h6 (by omega)
     replace h5 := h5n; replace hbc := hb6 _ _ zX5 hbc; replace hC := HS.out _ hbc; clear h5n hk6 hb6; refine hK.out _ _ (fun _ => ?_) ?_
     ·(exact hC)
     clear hK K; try simp only [sEt, sE0, sE1]
     refine sameC (l' := (bQ 8 127)) (by kernel_rfl) ?_
     first | exact tail T H X5 X6 W6 ⟨⟨hT, hH, h5, h6, by omega, by omega, by omega, by omega, by omega⟩, hbc⟩ | exact tail T H X5 X6 W1 ⟨⟨hT, hH, h5, h6, by omega, by omega, by omega, by omega, by omega⟩, hbc⟩ | exact tail T H X5 X6 W3 ⟨⟨hT, hH, h5, h6, by omega, by omega, by omega, by omega, by omega⟩, hbc⟩ | exact tail T H X5 X6 W4 ⟨⟨hT, hH, h5, h6, by omega, by omega, by omega, by omega, by omega⟩, hbc⟩ | exact tail T H X5 X6 W5 ⟨⟨hT, hH, h5, h6, by omega, by omega, by omega, by omega, by omega⟩, hbc⟩
    ·go_simp
     obtain ⟨X6, W5, eX6, fX6, h6, hbX6⟩ := any_box _ (.cells #[.slice none 0 0] 22); rw [fX6, eX6]; clear fX6; have zX6 : V.heap.size ≤ X6 := by rw [← eX6]; exact hbc.size
     try have lTX6 : T < X6 := by have := lt_of_heap hT; omega
     try replace hT := keep_heap hT hbX6
     try have lHX6 : H < X6 := by have := lt_of_heap hH; omega
     try replace hH := keep_heap hH hbX6
     try have lX5X6 : X5 < X6 := by have := lt_of_heap h5; omega
     try replace h5 := keep_heap h5 hbX6
     replace hbc := below_step hbc hbX6; replace hC := HS.out _ hbc; clear eX6 hbX6; go_wp2_with fail
     refine hK.out _ _ (fun _ => ?_) ?_
     ·(exact hC)
     clear hK K; try simp only [Act.put, sEt, sE0, sE1]
     refine readyC (rs := [3, 6]) (by kernel_rfl) (by simp) (each_cons (runC o80_1_3 (by rfl) (fun K hK => ?_)) (each_cons (runC o80_1_6 (by rfl) (fun K hK => ?_)) each_nil))
     ·go_simp
      obtain ⟨H, W3, eH, fH, hH, hbH⟩ := any_box _ (.cells (madeCells #[.int .i64 0] P) 3); rw [fH, eH]; clear fH; have zH : V.heap.size ≤ H := by rw [← eH]; exact hbc.size
      try have lTH : T < H := by have := lt_of_heap hT; omega
      try replace hT := keep_heap hT hbH
      try have lX5H : X5 < H := by have := lt_of_heap h5; omega
      try replace h5 := keep_heap h5 hbH
      try have lX6H : X6 < H := by have := lt_of_heap h6; omega
      try replace h6 := keep_heap h6 hbH
      replace hbc := below_step hbc hbH; replace hC := HS.out _ hbc; clear eH hbH; go_wp2_with fail
      refine hK.out _ _ (fun _ => ?_) ?_
      ·(exact hC)
      clear hK K; try simp only [Act.put, sEt, sE0, sE1]
      refine readyC (rs := [6]) (by kernel_rfl) (by simp) (each_cons (runC o80_1_6 (by rfl) (fun K hK => ?_)) each_nil)
      have c5 := cell_at h5 0 rfl; have f5 := free_of h5 0; go_simp; obtain ⟨W6, e6, h5n, hk6, hb6⟩ := set_box h5 (.slice (some ⟨T, 0, none⟩) P P); rw [e6]; clear e6 c5 f5; replace hT := hk6 _ _ hT (by omega)
      try replace hH := hk6 _ _ hH (by omega)
      try replace h6 := hk6 _ _ h6 (by omega)
      replace h5 := h5n; replace hbc := hb6 _ _ zX5 hbc; replace hC := HS.out _ hbc; clear h5n hk6 hb6; refine hK.out _ _ (fun _ => ?_) ?_
      ·(exact hC)
      clear hK K; try simp only [sEt, sE0, sE1]
      refine sameC (l' := (bQ 8 127)) (by kernel_rfl) ?_
      first | exact tail T H X5 X6 W6 ⟨⟨hT, hH, h5, h6, by omega, by omega, by omega, by omega, by omega⟩, hbc⟩ | exact tail T H X5 X6 W1 ⟨⟨hT, hH, h5, h6, by omega, by omega, by omega, by omega, by omega⟩, hbc⟩ | exact tail T H X5 X6 W3 ⟨⟨hT, hH, h5, h6, by omega, by omega, by omega, by omega, by omega⟩, hbc⟩ | exact tail T H X5 X6 W4 ⟨⟨hT, hH, h5, h6, by omega, by omega, by omega, by omega, by omega⟩, hbc⟩ | exact tail T H X5 X6 W5 ⟨⟨hT, hH, h5, h6, by omega, by omega, by omega, by omega, by omega⟩, hbc⟩
     ·have c5 := cell_at h5 0 rfl
      have f5 := free_of h5 0; go_simp; obtain ⟨W6, e6, h5n, hk6, hb6⟩ := set_box h5 (.slice (some ⟨T, 0, none⟩) P P); rw [e6]; clear e6 c5 f5; replace hT := hk6 _ _ hT (by omega)
      try replace hH := hk6 _ _ hH (by omega)
      try replace h6 := hk6 _ _ h6 (by omega)
      replace h5 := h5n; replace hbc := hb6 _ _ zX5 hbc; replace hC := HS.out _ hbc; clear h5n hk6 hb6; refine hK.out _ _ (fun _ => ?_) ?_
      ·(exact hC)
      clear hK K; try simp only [sEt, sE0, sE1]
      refine readyC (rs := [3]) (by kernel_rfl) (by simp) (each_cons (runC o80_1_3 (by rfl) (fun K hK => ?_)) each_nil)
      go_simp; obtain ⟨H, W3, eH, fH, hH, hbH⟩ := any_box _ (.cells (madeCells #[.int .i64 0] P) 3); rw [fH, eH]; clear fH; have zH : V.heap.size ≤ H := by rw [← eH]; exact hbc.size
      try have lTH : T < H := by have := lt_of_heap hT; omega
      try replace hT := keep_heap hT hbH
      try have lX5H : X5 < H := by have := lt_of_heap h5; omega
      try replace h5 := keep_heap h5 hbH
      try have lX6H : X6 < H := by have := lt_of_heap h6; omega
      try replace h6 := keep_heap h6 hbH
      replace hbc := below_step hbc hbH; replace hC := HS.out _ hbc; clear eH hbH; go_wp2_with fail
      refine hK.out _ _ (fun _ => ?_) ?_
      ·(exact hC)
      clear hK K; try simp only [Act.put, sEt, sE0, sE1]
      refine sameC (l' := (bQ 8 127)) (by kernel_rfl) ?_
      first | exact tail T H X5 X6 W6 ⟨⟨hT, hH, h5, h6, by omega, by omega, by omega, by omega, by omega⟩, hbc⟩ | exact tail T H X5 X6 W1 ⟨⟨hT, hH, h5, h6, by omega, by omega, by omega, by omega, by omega⟩, hbc⟩ | exact tail T H X5 X6 W3 ⟨⟨hT, hH, h5, h6, by omega, by omega, by omega, by omega, by omega⟩, hbc⟩ | exact tail T H X5 X6 W4 ⟨⟨hT, hH, h5, h6, by omega, by omega, by omega, by omega, by omega⟩, hbc⟩ | exact tail T H X5 X6 W5 ⟨⟨hT, hH, h5, h6, by omega, by omega, by omega, by omega, by omega⟩, hbc⟩
   ·go_simp
    obtain ⟨H, W3, eH, fH, hH, hbH⟩ := any_box _ (.cells (madeCells #[.int .i64 0] P) 3); rw [fH, eH]; clear fH; have zH : V.heap.size ≤ H := by rw [← eH]; exact hbc.size
    try have lTH : T < H := by have := lt_of_heap hT; omega
    try replace hT := keep_heap hT hbH
    try have lX5H : X5 < H := by have := lt_of_heap h5; omega
    try replace h5 := keep_heap h5 hbH
    try have lX6H : X6 < H := by have := lt_of_heap h6; omega
    try replace h6 := keep_heap h6 hbH
    replace hbc := below_step hbc hbH; replace hC := HS.out _ hbc; clear eH hbH; go_wp2_with fail
    refine hK.out _ _ (fun _ => ?_) ?_
    ·(exact hC)
    clear hK K; try simp only [Act.put, sEt, sE0, sE1]
    refine readyC (rs := [1, 5]) (by kernel_rfl) (by simp) (each_cons (runC o80_1_1 (by rfl) (fun K hK => ?_)) (each_cons (runC o80_1_5 (by rfl) (fun K hK => ?_)) each_nil))
    ·go_simp
     obtain ⟨T, W1, eT, fT, hT, hbT⟩ := any_box _ (.cells (madeCells #[.bool false] P) 4); rw [fT, eT]; clear fT; have zT : V.heap.size ≤ T := by rw [← eT]; exact hbc.size
     try have lHT : H < T := by have := lt_of_heap hH; omega
     try replace hH := keep_heap hH hbT
     try have lX5T : X5 < T := by have := lt_of_heap h5; omega
     try replace h5 := keep_heap h5 hbT
     try have lX6T : X6 < T := by have := lt_of_heap h6; omega
     try replace h6 := keep_heap h6 hbT
     replace hbc := below_step hbc hbT; replace hC := HS.out _ hbc; clear eT hbT; go_wp2_with fail
     refine hK.out _ _ (fun _ => ?_) ?_
     ·(exact hC)
     clear hK K; try simp only [Act.put, sEt, sE0, sE1]
     refine readyC (rs := [5]) (by kernel_rfl) (by simp) (each_cons (runC o80_1_5 (by rfl) (fun K hK => ?_)) each_nil)
     go_simp; obtain ⟨X6, W5, eX6, fX6, h6, hbX6⟩ := any_box _ (.cells #[.slice none 0 0] 22); rw [fX6, eX6]; clear fX6; have zX6 : V.heap.size ≤ X6 := by rw [← eX6]; exact hbc.size
     try have lTX6 : T < X6 := by have := lt_of_heap hT; omega
     try replace hT := keep_heap hT hbX6
     try have lHX6 : H < X6 := by have := lt_of_heap hH; omega
     try replace hH := keep_heap hH hbX6
     try have lX5X6 : X5 < X6 := by have := lt_of_heap h5; omega
     try replace h5 := keep_heap h5 hbX6
     replace hbc := below_step hbc hbX6; replace hC := HS.out _ hbc; clear eX6 hbX6; go_wp2_with fail
     refine hK.out _ _ (fun _ => ?_) ?_
     ·(exact hC)
     clear hK K; try simp only [Act.put, sEt, sE0, sE1]
     refine readyC (rs := [6]) (by kernel_rfl) (by simp) (each_cons (runC o80_1_6 (by rfl) (fun K hK => ?_)) each_nil)
     have c5 := cell_at h5 0 rfl; have f5 := free_of h5 0; go_simp; obtain ⟨W6, e6, h5n, hk6, hb6⟩ := set_box h5 (.slice (some ⟨T, 0, none⟩) P P); rw [e6]; clear e6 c5 f5; replace hT := hk6 _ _ hT (by omega)
     try replace hH := hk6 _ _ hH (by omega)
     try replace h6 := hk6 _ _ h6 (by omega)
     replace h5 := h5n; replace hbc := hb6 _ _ zX5 hbc; replace hC := HS.out _ hbc; clear h5n hk6 hb6; refine hK.out _ _ (fun _ => ?_) ?_
     ·(exact hC)
     clear hK K; try simp only [sEt, sE0, sE1]
     refine sameC (l' := (bQ 8 127)) (by kernel_rfl) ?_
     first | exact tail T H X5 X6 W6 ⟨⟨hT, hH, h5, h6, by omega, by omega, by omega, by omega, by omega⟩, hbc⟩ | exact tail T H X5 X6 W1 ⟨⟨hT, hH, h5, h6, by omega, by omega, by omega, by omega, by omega⟩, hbc⟩ | exact tail T H X5 X6 W3 ⟨⟨hT, hH, h5, h6, by omega, by omega, by omega, by omega, by omega⟩, hbc⟩ | exact tail T H X5 X6 W4 ⟨⟨hT, hH, h5, h6, by omega, by omega, by omega, by omega, by omega⟩, hbc⟩ | exact tail T H X5 X6 W5 ⟨⟨hT, hH, h5, h6, by omega, by omega, by omega, by omega, by omega⟩, hbc⟩
    ·go_simp
     obtain ⟨X6, W5, eX6, fX6, h6, hbX6⟩ := any_box _ (.cells #[.slice none 0 0] 22); rw [fX6, eX6]; clear fX6; have zX6 : V.heap.size ≤ X6 := by rw [← eX6]; exact hbc.size
     try have lTX6 : T < X6 := by have := lt_of_heap hT; omega
     try replace hT := keep_heap hT hbX6
     try have lHX6 : H < X6 := by have := lt_of_heap hH; omega
     try replace hH := keep_heap hH hbX6
     try have lX5X6 : X5 < X6 := by have := lt_of_heap h5; omega
     try replace h5 := keep_heap h5 hbX6
     replace hbc := below_step hbc hbX6; replace hC := HS.out _ hbc; clear eX6 hbX6; go_wp2_with fail
     refine hK.out _ _ (fun _ => ?_) ?_
     ·(exact hC)
     clear hK K; try simp only [Act.put, sEt, sE0, sE1]
     refine readyC (rs := [1]) (by kernel_rfl) (by simp) (each_cons (runC o80_1_1 (by rfl) (fun K hK => ?_)) each_nil)
     go_simp; obtain ⟨T, W1, eT, fT, hT, hbT⟩ := any_box _ (.cells (madeCells #[.bool false] P) 4); rw [fT, eT]; clear fT; have zT : V.heap.size ≤ T := by rw [← eT]; exact hbc.size
     try have lHT : H < T := by have := lt_of_heap hH; omega
     try replace hH := keep_heap hH hbT
     try have lX5T : X5 < T := by have := lt_of_heap h5; omega
     try replace h5 := keep_heap h5 hbT
     try have lX6T : X6 < T := by have := lt_of_heap h6; omega
     try replace h6 := keep_heap h6 hbT
     replace hbc := below_step hbc hbT; replace hC := HS.out _ hbc; clear eT hbT; go_wp2_with fail
     refine hK.out _ _ (fun _ => ?_) ?_
     ·(exact hC)
     clear hK K; try simp only [Act.put, sEt, sE0, sE1]
     refine readyC (rs := [6]) (by kernel_rfl) (by simp) (each_cons (runC o80_1_6 (by rfl) (fun K hK => ?_)) each_nil)
     have c5 := cell_at h5 0 rfl; have f5 := free_of h5 0; go_simp; obtain ⟨W6, e6, h5n, hk6, hb6⟩ := set_box h5 (.slice (some ⟨T, 0, none⟩) P P); rw [e6]; clear e6 c5 f5; replace hT := hk6 _ _ hT (by omega)
     try replace hH := hk6 _ _ hH (by omega)
     try replace h6 := hk6 _ _ h6 (by omega)
     replace h5 := h5n; replace hbc := hb6 _ _ zX5 hbc; replace hC := HS.out _ hbc; clear h5n hk6 hb6; refine hK.out _ _ (fun _ => ?_) ?_
     ·(exact hC)
     clear hK K; try simp only [sEt, sE0, sE1]
     refine sameC (l' := (bQ 8 127)) (by kernel_rfl) ?_
     first | exact tail T H X5 X6 W6 ⟨⟨hT, hH, h5, h6, by omega, by omega, by omega, by omega, by omega⟩, hbc⟩ | exact tail T H X5 X6 W1 ⟨⟨hT, hH, h5, h6, by omega, by omega, by omega, by omega, by omega⟩, hbc⟩ | exact tail T H X5 X6 W3 ⟨⟨hT, hH, h5, h6, by omega, by omega, by omega, by omega, by omega⟩, hbc⟩ | exact tail T H X5 X6 W4 ⟨⟨hT, hH, h5, h6, by omega, by omega, by omega, by omega, by omega⟩, hbc⟩ | exact tail T H X5 X6 W5 ⟨⟨hT, hH, h5, h6, by omega, by omega, by omega, by omega, by omega⟩, hbc⟩
   ·go_simp
    obtain ⟨X6, W5, eX6, fX6, h6, hbX6⟩ := any_box _ (.cells #[.slice none 0 0] 22); rw [fX6, eX6]; clear fX6; have zX6 : V.heap.size ≤ X6 := by rw [← eX6]; exact hbc.size
    try have lTX6 : T < X6 := by have := lt_of_heap hT; omega
    try replace hT := keep_heap hT hbX6
    try have lHX6 : H < X6 := by have := lt_of_heap hH; omega
    try replace hH := keep_heap hH hbX6
    try have lX5X6 : X5 < X6 := by have := lt_of_heap h5; omega
    try replace h5 := keep_heap h5 hbX6
    replace hbc := below_step hbc hbX6; replace hC := HS.out _ hbc; clear eX6 hbX6; go_wp2_with fail
    refine hK.out _ _ (fun _ => ?_) ?_
    ·(exact hC)
    clear hK K; try simp only [Act.put, sEt, sE0, sE1]
    refine readyC (rs := [1, 3]) (by kernel_rfl) (by simp) (each_cons (runC o80_1_1 (by rfl) (fun K hK => ?_)) (each_cons (runC o80_1_3 (by rfl) (fun K hK => ?_)) each_nil))
    ·go_simp
     obtain ⟨T, W1, eT, fT, hT, hbT⟩ := any_box _ (.cells (madeCells #[.bool false] P) 4); rw [fT, eT]; clear fT; have zT : V.heap.size ≤ T := by rw [← eT]; exact hbc.size
     try have lHT : H < T := by have := lt_of_heap hH; omega
     try replace hH := keep_heap hH hbT
     try have lX5T : X5 < T := by have := lt_of_heap h5; omega
     try replace h5 := keep_heap h5 hbT
     try have lX6T : X6 < T := by have := lt_of_heap h6; omega
     try replace h6 := keep_heap h6 hbT
     replace hbc := below_step hbc hbT; replace hC := HS.out _ hbc; clear eT hbT; go_wp2_with fail
     refine hK.out _ _ (fun _ => ?_) ?_
     ·(exact hC)
     clear hK K; try simp only [Act.put, sEt, sE0, sE1]
     refine readyC (rs := [3, 6]) (by kernel_rfl) (by simp) (each_cons (runC o80_1_3 (by rfl) (fun K hK => ?_)) (each_cons (runC o80_1_6 (by rfl) (fun K hK => ?_)) each_nil))
     ·go_simp
      obtain ⟨H, W3, eH, fH, hH, hbH⟩ := any_box _ (.cells (madeCells #[.int .i64 0] P) 3); rw [fH, eH]; clear fH; have zH : V.heap.size ≤ H := by rw [← eH]; exact hbc.size
      try have lTH : T < H := by have := lt_of_heap hT; omega
      try replace hT := keep_heap hT hbH
      try have lX5H : X5 < H := by have := lt_of_heap h5; omega
      try replace h5 := keep_heap h5 hbH
      try have lX6H : X6 < H := by have := lt_of_heap h6; omega
      try replace h6 := keep_heap h6 hbH
      replace hbc := below_step hbc hbH; replace hC := HS.out _ hbc; clear eH hbH; go_wp2_with fail
      refine hK.out _ _ (fun _ => ?_) ?_
      ·(exact hC)
      clear hK K; try simp only [Act.put, sEt, sE0, sE1]
      refine readyC (rs := [6]) (by kernel_rfl) (by simp) (each_cons (runC o80_1_6 (by rfl) (fun K hK => ?_)) each_nil)
      have c5 := cell_at h5 0 rfl; have f5 := free_of h5 0; go_simp; obtain ⟨W6, e6, h5n, hk6, hb6⟩ := set_box h5 (.slice (some ⟨T, 0, none⟩) P P); rw [e6]; clear e6 c5 f5; replace hT := hk6 _ _ hT (by omega)
      try replace hH := hk6 _ _ hH (by omega)
      try replace h6 := hk6 _ _ h6 (by omega)
      replace h5 := h5n; replace hbc := hb6 _ _ zX5 hbc; replace hC := HS.out _ hbc; clear h5n hk6 hb6; refine hK.out _ _ (fun _ => ?_) ?_
      ·(exact hC)
      clear hK K; try simp only [sEt, sE0, sE1]
      refine sameC (l' := (bQ 8 127)) (by kernel_rfl) ?_
      first | exact tail T H X5 X6 W6 ⟨⟨hT, hH, h5, h6, by omega, by omega, by omega, by omega, by omega⟩, hbc⟩ | exact tail T H X5 X6 W1 ⟨⟨hT, hH, h5, h6, by omega, by omega, by omega, by omega, by omega⟩, hbc⟩ | exact tail T H X5 X6 W3 ⟨⟨hT, hH, h5, h6, by omega, by omega, by omega, by omega, by omega⟩, hbc⟩ | exact tail T H X5 X6 W4 ⟨⟨hT, hH, h5, h6, by omega, by omega, by omega, by omega, by omega⟩, hbc⟩ | exact tail T H X5 X6 W5 ⟨⟨hT, hH, h5, h6, by omega, by omega, by omega, by omega, by omega⟩, hbc⟩
     ·have c5 := cell_at h5 0 rfl
      have f5 := free_of h5 0; go_simp; obtain ⟨W6, e6, h5n, hk6, hb6⟩ := set_box h5 (.slice (some ⟨T, 0, none⟩) P P); rw [e6]; clear e6 c5 f5; replace hT := hk6 _ _ hT (by omega)
      try replace hH := hk6 _ _ hH (by omega)
      try replace h6 := hk6 _ _ h6 (by omega)
      replace h5 := h5n; replace hbc := hb6 _ _ zX5 hbc; replace hC := HS.out _ hbc; clear h5n hk6 hb6; refine hK.out _ _ (fun _ => ?_) ?_
      ·(exact hC)
      clear hK K; try simp only [sEt, sE0, sE1]
      refine readyC (rs := [3]) (by kernel_rfl) (by simp) (each_cons (runC o80_1_3 (by rfl) (fun K hK => ?_)) each_nil)
      go_simp; obtain ⟨H, W3, eH, fH, hH, hbH⟩ := any_box _ (.cells (madeCells #[.int .i64 0] P) 3); rw [fH, eH]; clear fH; have zH : V.heap.size ≤ H := by rw [← eH]; exact hbc.size
      try have lTH : T < H := by have := lt_of_heap hT; omega
      try replace hT := keep_heap hT hbH
      try have lX5H : X5 < H := by have := lt_of_heap h5; omega
      try replace h5 := keep_heap h5 hbH
      try have lX6H : X6 < H := by have := lt_of_heap h6; omega
      try replace h6 := keep_heap h6 hbH
      replace hbc := below_step hbc hbH; replace hC := HS.out _ hbc; clear eH hbH; go_wp2_with fail
      refine hK.out _ _ (fun _ => ?_) ?_
      ·(exact hC)
      clear hK K; try simp only [Act.put, sEt, sE0, sE1]
      refine sameC (l' := (bQ 8 127)) (by kernel_rfl) ?_
      first | exact tail T H X5 X6 W6 ⟨⟨hT, hH, h5, h6, by omega, by omega, by omega, by omega, by omega⟩, hbc⟩ | exact tail T H X5 X6 W1 ⟨⟨hT, hH, h5, h6, by omega, by omega, by omega, by omega, by omega⟩, hbc⟩ | exact tail T H X5 X6 W3 ⟨⟨hT, hH, h5, h6, by omega, by omega, by omega, by omega, by omega⟩, hbc⟩ | exact tail T H X5 X6 W4 ⟨⟨hT, hH, h5, h6, by omega, by omega, by omega, by omega, by omega⟩, hbc⟩ | exact tail T H X5 X6 W5 ⟨⟨hT, hH, h5, h6, by omega, by omega, by omega, by omega, by omega⟩, hbc⟩
    ·go_simp
     obtain ⟨H, W3, eH, fH, hH, hbH⟩ := any_box _ (.cells (madeCells #[.int .i64 0] P) 3); rw [fH, eH]; clear fH; have zH : V.heap.size ≤ H := by rw [← eH]; exact hbc.size
     try have lTH : T < H := by have := lt_of_heap hT; omega
     try replace hT := keep_heap hT hbH
     try have lX5H : X5 < H := by have := lt_of_heap h5; omega
     try replace h5 := keep_heap h5 hbH
     try have lX6H : X6 < H := by have := lt_of_heap h6; omega
     try replace h6 := keep_heap h6 hbH
     replace hbc := below_step hbc hbH; replace hC := HS.out _ hbc; clear eH hbH; go_wp2_with fail
     refine hK.out _ _ (fun _ => ?_) ?_
     ·(exact hC)
     clear hK K; try simp only [Act.put, sEt, sE0, sE1]
     refine readyC (rs := [1]) (by kernel_rfl) (by simp) (each_cons (runC o80_1_1 (by rfl) (fun K hK => ?_)) each_nil)
     go_simp; obtain ⟨T, W1, eT, fT, hT, hbT⟩ := any_box _ (.cells (madeCells #[.bool false] P) 4); rw [fT, eT]; clear fT; have zT : V.heap.size ≤ T := by rw [← eT]; exact hbc.size
     try have lHT : H < T := by have := lt_of_heap hH; omega
     try replace hH := keep_heap hH hbT
     try have lX5T : X5 < T := by have := lt_of_heap h5; omega
     try replace h5 := keep_heap h5 hbT
     try have lX6T : X6 < T := by have := lt_of_heap h6; omega
     try replace h6 := keep_heap h6 hbT
     replace hbc := below_step hbc hbT; replace hC := HS.out _ hbc; clear eT hbT; go_wp2_with fail
     refine hK.out _ _ (fun _ => ?_) ?_
     ·(exact hC)
     clear hK K; try simp only [Act.put, sEt, sE0, sE1]
     refine readyC (rs := [6]) (by kernel_rfl) (by simp) (each_cons (runC o80_1_6 (by rfl) (fun K hK => ?_)) each_nil)
     have c5 := cell_at h5 0 rfl; have f5 := free_of h5 0; go_simp; obtain ⟨W6, e6, h5n, hk6, hb6⟩ := set_box h5 (.slice (some ⟨T, 0, none⟩) P P); rw [e6]; clear e6 c5 f5; replace hT := hk6 _ _ hT (by omega)
     try replace hH := hk6 _ _ hH (by omega)
     try replace h6 := hk6 _ _ h6 (by omega)
     replace h5 := h5n; replace hbc := hb6 _ _ zX5 hbc; replace hC := HS.out _ hbc; clear h5n hk6 hb6; refine hK.out _ _ (fun _ => ?_) ?_
     ·(exact hC)
     clear hK K; try simp only [sEt, sE0, sE1]
     refine sameC (l' := (bQ 8 127)) (by kernel_rfl) ?_
     first | exact tail T H X5 X6 W6 ⟨⟨hT, hH, h5, h6, by omega, by omega, by omega, by omega, by omega⟩, hbc⟩ | exact tail T H X5 X6 W1 ⟨⟨hT, hH, h5, h6, by omega, by omega, by omega, by omega, by omega⟩, hbc⟩ | exact tail T H X5 X6 W3 ⟨⟨hT, hH, h5, h6, by omega, by omega, by omega, by omega, by omega⟩, hbc⟩ | exact tail T H X5 X6 W4 ⟨⟨hT, hH, h5, h6, by omega, by omega, by omega, by omega, by omega⟩, hbc⟩ | exact tail T H X5 X6 W5 ⟨⟨hT, hH, h5, h6, by omega, by omega, by omega, by omega, by omega⟩, hbc⟩
  ·go_simp
   obtain ⟨X6, W5, eX6, fX6, h6, hbX6⟩ := any_box _ (.cells #[.slice none 0 0] 22); rw [fX6, eX6]; clear fX6; have zX6 : V.heap.size ≤ X6 := by rw [← eX6]; exact hbc.size
   try have lTX6 : T < X6 := by have := lt_of_heap hT; omega
   try replace hT := keep_heap hT hbX6
   try have lHX6 : H < X6 := by have := lt_of_heap hH; omega
   try replace hH := keep_heap hH hbX6
   try have lX5X6 : X5 < X6 := by have := lt_of_heap h5; omega
   try replace h5 := keep_heap h5 hbX6
   replace hbc := below_step hbc hbX6; replace hC := HS.out _ hbc; clear eX6 hbX6; go_wp2_with fail
   refine hK.out _ _ (fun _ => ?_) ?_
   ·(exact hC)
   clear hK K; try simp only [Act.put, sEt, sE0, sE1]
   refine readyC (rs := [1, 3, 4]) (by kernel_rfl) (by simp) (each_cons (runC o80_1_1 (by rfl) (fun K hK => ?_)) (each_cons (runC o80_1_3 (by rfl) (fun K hK => ?_)) (each_cons (runC o80_1_4 (by rfl) (fun K hK => ?_)) each_nil)))
   ·go_simp
    obtain ⟨T, W1, eT, fT, hT, hbT⟩ := any_box _ (.cells (madeCells #[.bool false] P) 4); rw [fT, eT]; clear fT; have zT : V.heap.size ≤ T := by rw [← eT]; exact hbc.size
    try have lHT : H < T := by have := lt_of_heap hH; omega
    try replace hH := keep_heap hH hbT
    try have lX5T : X5 < T := by have := lt_of_heap h5; omega
    try replace h5 := keep_heap h5 hbT
    try have lX6T : X6 < T := by have := lt_of_heap h6; omega
    try replace h6 := keep_heap h6 hbT
    replace hbc := below_step hbc hbT; replace hC := HS.out _ hbc; clear eT hbT; go_wp2_with fail
    refine hK.out _ _ (fun _ => ?_) ?_
    ·(exact hC)
    clear hK K; try simp only [Act.put, sEt, sE0, sE1]
    refine readyC (rs := [3, 4]) (by kernel_rfl) (by simp) (each_cons (runC o80_1_3 (by rfl) (fun K hK => ?_)) (each_cons (runC o80_1_4 (by rfl) (fun K hK => ?_)) each_nil))
    ·go_simp
     obtain ⟨H, W3, eH, fH, hH, hbH⟩ := any_box _ (.cells (madeCells #[.int .i64 0] P) 3); rw [fH, eH]; clear fH; have zH : V.heap.size ≤ H := by rw [← eH]; exact hbc.size
     try have lTH : T < H := by have := lt_of_heap hT; omega
     try replace hT := keep_heap hT hbH
     try have lX5H : X5 < H := by have := lt_of_heap h5; omega
     try replace h5 := keep_heap h5 hbH
     try have lX6H : X6 < H := by have := lt_of_heap h6; omega
     try replace h6 := keep_heap h6 hbH
     replace hbc := below_step hbc hbH; replace hC := HS.out _ hbc; clear eH hbH; go_wp2_with fail
     refine hK.out _ _ (fun _ => ?_) ?_
     ·(exact hC)
     clear hK K; try simp only [Act.put, sEt, sE0, sE1]
     refine readyC (rs := [4]) (by kernel_rfl) (by simp) (each_cons (runC o80_1_4 (by rfl) (fun K hK => ?_)) each_nil)
     go_simp; obtain ⟨X5, W4, eX5, fX5, h5, hbX5⟩ := any_box _ (.cells #[.slice none 0 0] 152); rw [fX5, eX5]; clear fX5; have zX5 : V.heap.size ≤ X5 := by rw [← eX5]; exact hbc.size
     try have lTX5 : T < X5 := by have := lt_of_heap hT; omega
     try replace hT := keep_heap hT hbX5
     try have lHX5 : H < X5 := by have := lt_of_heap hH; omega
     try replace hH := keep_heap hH hbX5
     try have lX6X5 : X6 < X5 := by have := lt_of_heap h6; omega
     try replace h6 := keep_heap h6 hbX5
     replace hbc := below_step hbc hbX5; replace hC := HS.out _ hbc; clear eX5 hbX5; go_wp2_with fail
     refine hK.out _ _ (fun _ => ?_) ?_
     ·(exact hC)
     clear hK K; try simp only [Act.put, sEt, sE0, sE1]
     refine readyC (rs := [6]) (by kernel_rfl) (by simp) (each_cons (runC o80_1_6 (by rfl) (fun K hK => ?_)) each_nil)
     have c5 := cell_at h5 0 rfl; have f5 := free_of h5 0; go_simp; obtain ⟨W6, e6, h5n, hk6, hb6⟩ := set_box h5 (.slice (some ⟨T, 0, none⟩) P P); rw [e6]; clear e6 c5 f5; replace hT := hk6 _ _ hT (by omega)
     try replace hH := hk6 _ _ hH (by omega)
     try replace h6 := hk6 _ _ h6 (by omega)
     replace h5 := h5n; replace hbc := hb6 _ _ zX5 hbc; replace hC := HS.out _ hbc; clear h5n hk6 hb6; refine hK.out _ _ (fun _ => ?_) ?_
     ·(exact hC)
     clear hK K; try simp only [sEt, sE0, sE1]
     refine sameC (l' := (bQ 8 127)) (by kernel_rfl) ?_
     first | exact tail T H X5 X6 W6 ⟨⟨hT, hH, h5, h6, by omega, by omega, by omega, by omega, by omega⟩, hbc⟩ | exact tail T H X5 X6 W1 ⟨⟨hT, hH, h5, h6, by omega, by omega, by omega, by omega, by omega⟩, hbc⟩ | exact tail T H X5 X6 W3 ⟨⟨hT, hH, h5, h6, by omega, by omega, by omega, by omega, by omega⟩, hbc⟩ | exact tail T H X5 X6 W4 ⟨⟨hT, hH, h5, h6, by omega, by omega, by omega, by omega, by omega⟩, hbc⟩ | exact tail T H X5 X6 W5 ⟨⟨hT, hH, h5, h6, by omega, by omega, by omega, by omega, by omega⟩, hbc⟩
    ·go_simp
     obtain ⟨X5, W4, eX5, fX5, h5, hbX5⟩ := any_box _ (.cells #[.slice none 0 0] 152); rw [fX5, eX5]; clear fX5; have zX5 : V.heap.size ≤ X5 := by rw [← eX5]; exact hbc.size
     try have lTX5 : T < X5 := by have := lt_of_heap hT; omega
     try replace hT := keep_heap hT hbX5
     try have lHX5 : H < X5 := by have := lt_of_heap hH; omega
     try replace hH := keep_heap hH hbX5
     try have lX6X5 : X6 < X5 := by have := lt_of_heap h6; omega
     try replace h6 := keep_heap h6 hbX5
     replace hbc := below_step hbc hbX5; replace hC := HS.out _ hbc; clear eX5 hbX5; go_wp2_with fail
     refine hK.out _ _ (fun _ => ?_) ?_
     ·(exact hC)
     clear hK K; try simp only [Act.put, sEt, sE0, sE1]
     refine readyC (rs := [3, 6]) (by kernel_rfl) (by simp) (each_cons (runC o80_1_3 (by rfl) (fun K hK => ?_)) (each_cons (runC o80_1_6 (by rfl) (fun K hK => ?_)) each_nil))
     ·go_simp
      obtain ⟨H, W3, eH, fH, hH, hbH⟩ := any_box _ (.cells (madeCells #[.int .i64 0] P) 3); rw [fH, eH]; clear fH; have zH : V.heap.size ≤ H := by rw [← eH]; exact hbc.size
      try have lTH : T < H := by have := lt_of_heap hT; omega
      try replace hT := keep_heap hT hbH
      try have lX5H : X5 < H := by have := lt_of_heap h5; omega
      try replace h5 := keep_heap h5 hbH
      try have lX6H : X6 < H := by have := lt_of_heap h6; omega
      try replace h6 := keep_heap h6 hbH
      replace hbc := below_step hbc hbH; replace hC := HS.out _ hbc; clear eH hbH; go_wp2_with fail
      refine hK.out _ _ (fun _ => ?_) ?_
      ·(exact hC)
      clear hK K; try simp only [Act.put, sEt, sE0, sE1]
      refine readyC (rs := [6]) (by kernel_rfl) (by simp) (each_cons (runC o80_1_6 (by rfl) (fun K hK => ?_)) each_nil)
      have c5 := cell_at h5 0 rfl; have f5 := free_of h5 0; go_simp; obtain ⟨W6, e6, h5n, hk6, hb6⟩ := set_box h5 (.slice (some ⟨T, 0, none⟩) P P); rw [e6]; clear e6 c5 f5; replace hT := hk6 _ _ hT (by omega)
      try replace hH := hk6 _ _ hH (by omega)
      try replace h6 := hk6 _ _ h6 (by omega)
      replace h5 := h5n; replace hbc := hb6 _ _ zX5 hbc; replace hC := HS.out _ hbc; clear h5n hk6 hb6; refine hK.out _ _ (fun _ => ?_) ?_
      ·(exact hC)
      clear hK K; try simp only [sEt, sE0, sE1]
      refine sameC (l' := (bQ 8 127)) (by kernel_rfl) ?_
      first | exact tail T H X5 X6 W6 ⟨⟨hT, hH, h5, h6, by omega, by omega, by omega, by omega, by omega⟩, hbc⟩ | exact tail T H X5 X6 W1 ⟨⟨hT, hH, h5, h6, by omega, by omega, by omega, by omega, by omega⟩, hbc⟩ | exact tail T H X5 X6 W3 ⟨⟨hT, hH, h5, h6, by omega, by omega, by omega, by omega, by omega⟩, hbc⟩ | exact tail T H X5 X6 W4 ⟨⟨hT, hH, h5, h6, by omega, by omega, by omega, by omega, by omega⟩, hbc⟩ | exact tail T H X5 X6 W5 ⟨⟨hT, hH, h5, h6, by omega, by omega, by omega, by omega, by omega⟩, hbc⟩
     ·have c5 := cell_at h5 0 rfl
      have f5 := free_of h5 0; go_simp; obtain ⟨W6, e6, h5n, hk6, hb6⟩ := set_box h5 (.slice (some ⟨T, 0, none⟩) P P); rw [e6]; clear e6 c5 f5; replace hT := hk6 _ _ hT (by omega)
      try replace hH := hk6 _ _ hH (by omega)
      try replace h6 := hk6 _ _ h6 (by omega)
      replace h5 := h5n; replace hbc := hb6 _ _ zX5 hbc; replace hC := HS.out _ hbc; clear h5n hk6 hb6; refine hK.out _ _ (fun _ => ?_) ?_
      ·(exact hC)
      clear hK K; try simp only [sEt, sE0, sE1]
      refine readyC (rs := [3]) (by kernel_rfl) (by simp) (each_cons (runC o80_1_3 (by rfl) (fun K hK => ?_)) each_nil)
      go_simp; obtain ⟨H, W3, eH, fH, hH, hbH⟩ := any_box _ (.cells (madeCells #[.int .i64 0] P) 3); rw [fH, eH]; clear fH; have zH : V.heap.size ≤ H := by rw [← eH]; exact hbc.size
      try have lTH : T < H := by have := lt_of_heap hT; omega
      try replace hT := keep_heap hT hbH
      try have lX5H : X5 < H := by have := lt_of_heap h5; omega
      try replace h5 := keep_heap h5 hbH
      try have lX6H : X6 < H := by have := lt_of_heap h6; omega
      try replace h6 := keep_heap h6 hbH
      replace hbc := below_step hbc hbH; replace hC := HS.out _ hbc; clear eH hbH; go_wp2_with fail
      refine hK.out _ _ (fun _ => ?_) ?_
      ·(exact hC)
      clear hK K; try simp only [Act.put, sEt, sE0, sE1]
      refine sameC (l' := (bQ 8 127)) (by kernel_rfl) ?_
      first | exact tail T H X5 X6 W6 ⟨⟨hT, hH, h5, h6, by omega, by omega, by omega, by omega, by omega⟩, hbc⟩ | exact tail T H X5 X6 W1 ⟨⟨hT, hH, h5, h6, by omega, by omega, by omega, by omega, by omega⟩, hbc⟩ | exact tail T H X5 X6 W3 ⟨⟨hT, hH, h5, h6, by omega, by omega, by omega, by omega, by omega⟩, hbc⟩ | exact tail T H X5 X6 W4 ⟨⟨hT, hH, h5, h6, by omega, by omega, by omega, by omega, by omega⟩, hbc⟩ | exact tail T H X5 X6 W5 ⟨⟨hT, hH, h5, h6, by omega, by omega, by omega, by omega, by omega⟩, hbc⟩
   ·go_simp
    obtain ⟨H, W3, eH, fH, hH, hbH⟩ := any_box _ (.cells (madeCells #[.int .i64 0] P) 3); rw [fH, eH]; clear fH; have zH : V.heap.size ≤ H := by rw [← eH]; exact hbc.size
    try have lTH : T < H := by have := lt_of_heap hT; omega
    try replace hT := keep_heap hT hbH
    try have lX5H : X5 < H := by have := lt_of_heap h5; omega
    try replace h5 := keep_heap h5 hbH
    try have lX6H : X6 < H := by have := lt_of_heap h6; omega
    try replace h6 := keep_heap h6 hbH
    replace hbc := below_step hbc hbH; replace hC := HS.out _ hbc; clear eH hbH; go_wp2_with fail
    refine hK.out _ _ (fun _ => ?_) ?_
    ·(exact hC)
    clear hK K; try simp only [Act.put, sEt, sE0, sE1]
    refine readyC (rs := [1, 4]) (by kernel_rfl) (by simp) (each_cons (runC o80_1_1 (by rfl) (fun K hK => ?_)) (each_cons (runC o80_1_4 (by rfl) (fun K hK => ?_)) each_nil))
    ·go_simp
     obtain ⟨T, W1, eT, fT, hT, hbT⟩ := any_box _ (.cells (madeCells #[.bool false] P) 4); rw [fT, eT]; clear fT; have zT : V.heap.size ≤ T := by rw [← eT]; exact hbc.size
     try have lHT : H < T := by have := lt_of_heap hH; omega
     try replace hH := keep_heap hH hbT
     try have lX5T : X5 < T := by have := lt_of_heap h5; omega
     try replace h5 := keep_heap h5 hbT
     try have lX6T : X6 < T := by have := lt_of_heap h6; omega
     try replace h6 := keep_heap h6 hbT
     replace hbc := below_step hbc hbT; replace hC := HS.out _ hbc; clear eT hbT; go_wp2_with fail
     refine hK.out _ _ (fun _ => ?_) ?_
     ·(exact hC)
     clear hK K; try simp only [Act.put, sEt, sE0, sE1]
     refine readyC (rs := [4]) (by kernel_rfl) (by simp) (each_cons (runC o80_1_4 (by rfl) (fun K hK => ?_)) each_nil)
     go_simp; obtain ⟨X5, W4, eX5, fX5, h5, hbX5⟩ := any_box _ (.cells #[.slice none 0 0] 152); rw [fX5, eX5]; clear fX5; have zX5 : V.heap.size ≤ X5 := by rw [← eX5]; exact hbc.size
     try have lTX5 : T < X5 := by have := lt_of_heap hT; omega
     try replace hT := keep_heap hT hbX5
     try have lHX5 : H < X5 := by have := lt_of_heap hH; omega
     try replace hH := keep_heap hH hbX5
     try have lX6X5 : X6 < X5 := by have := lt_of_heap h6; omega
     try replace h6 := keep_heap h6 hbX5
     replace hbc := below_step hbc hbX5; replace hC := HS.out _ hbc; clear eX5 hbX5; go_wp2_with fail
     refine hK.out _ _ (fun _ => ?_) ?_
     ·(exact hC)
     clear hK K; try simp only [Act.put, sEt, sE0, sE1]
     refine readyC (rs := [6]) (by kernel_rfl) (by simp) (each_cons (runC o80_1_6 (by rfl) (fun K hK => ?_)) each_nil)
     have c5 := cell_at h5 0 rfl; have f5 := free_of h5 0; go_simp; obtain ⟨W6, e6, h5n, hk6, hb6⟩ := set_box h5 (.slice (some ⟨T, 0, none⟩) P P); rw [e6]; clear e6 c5 f5; replace hT := hk6 _ _ hT (by omega)
     try replace hH := hk6 _ _ hH (by omega)
     try replace h6 := hk6 _ _ h6 (by omega)
     replace h5 := h5n; replace hbc := hb6 _ _ zX5 hbc; replace hC := HS.out _ hbc; clear h5n hk6 hb6; refine hK.out _ _ (fun _ => ?_) ?_
     ·(exact hC)
     clear hK K; try simp only [sEt, sE0, sE1]
     refine sameC (l' := (bQ 8 127)) (by kernel_rfl) ?_
     first | exact tail T H X5 X6 W6 ⟨⟨hT, hH, h5, h6, by omega, by omega, by omega, by omega, by omega⟩, hbc⟩ | exact tail T H X5 X6 W1 ⟨⟨hT, hH, h5, h6, by omega, by omega, by omega, by omega, by omega⟩, hbc⟩ | exact tail T H X5 X6 W3 ⟨⟨hT, hH, h5, h6, by omega, by omega, by omega, by omega, by omega⟩, hbc⟩ | exact tail T H X5 X6 W4 ⟨⟨hT, hH, h5, h6, by omega, by omega, by omega, by omega, by omega⟩, hbc⟩ | exact tail T H X5 X6 W5 ⟨⟨hT, hH, h5, h6, by omega, by omega, by omega, by omega, by omega⟩, hbc⟩
    ·go_simp
     obtain ⟨X5, W4, eX5, fX5, h5, hbX5⟩ := any_box _ (.cells #[.slice none 0 0] 152); rw [fX5, eX5]; clear fX5; have zX5 : V.heap.size ≤ X5 := by rw [← eX5]; exact hbc.size
     try have lTX5 : T < X5 := by have := lt_of_heap hT; omega
     try replace hT := keep_heap hT hbX5
     try have lHX5 : H < X5 := by have := lt_of_heap hH; omega
     try replace hH := keep_heap hH hbX5
     try have lX6X5 : X6 < X5 := by have := lt_of_heap h6; omega
     try replace h6 := keep_heap h6 hbX5
     replace hbc := below_step hbc hbX5; replace hC := HS.out _ hbc; clear eX5 hbX5; go_wp2_with fail
     refine hK.out _ _ (fun _ => ?_) ?_
     ·(exact hC)
     clear hK K; try simp only [Act.put, sEt, sE0, sE1]
     refine readyC (rs := [1]) (by kernel_rfl) (by simp) (each_cons (runC o80_1_1 (by rfl) (fun K hK => ?_)) each_nil)
     go_simp; obtain ⟨T, W1, eT, fT, hT, hbT⟩ := any_box _ (.cells (madeCells #[.bool false] P) 4); rw [fT, eT]; clear fT; have zT : V.heap.size ≤ T := by rw [← eT]; exact hbc.size
     try have lHT : H < T := by have := lt_of_heap hH; omega
     try replace hH := keep_heap hH hbT
     try have lX5T : X5 < T := by have := lt_of_heap h5; omega
     try replace h5 := keep_heap h5 hbT
     try have lX6T : X6 < T := by have := lt_of_heap h6; omega
     try replace h6 := keep_heap h6 hbT
     replace hbc := below_step hbc hbT; replace hC := HS.out _ hbc; clear eT hbT; go_wp2_with fail
     refine hK.out _ _ (fun _ => ?_) ?_
     ·(exact hC)
     clear hK K; try simp only [Act.put, sEt, sE0, sE1]
     refine readyC (rs := [6]) (by kernel_rfl) (by simp) (each_cons (runC o80_1_6 (by rfl) (fun K hK => ?_)) each_nil)
     have c5 := cell_at h5 0 rfl; have f5 := free_of h5 0; go_simp; obtain ⟨W6, e6, h5n, hk6, hb6⟩ := set_box h5 (.slice (some ⟨T, 0, none⟩) P P); rw [e6]; clear e6 c5 f5; replace hT := hk6 _ _ hT (by omega)
     try replace hH := hk6 _ _ hH (by omega)
     try replace h6 := hk6 _ _ h6 (by omega)
     replace h5 := h5n; replace hbc := hb6 _ _ zX5 hbc; replace hC := HS.out _ hbc; clear h5n hk6 hb6; refine hK.out _ _ (fun _ => ?_) ?_
     ·(exact hC)
     clear hK K; try simp only [sEt, sE0, sE1]
     refine sameC (l' := (bQ 8 127)) (by kernel_rfl) ?_
     first | exact tail T H X5 X6 W6 ⟨⟨hT, hH, h5, h6, by omega, by omega, by omega, by omega, by omega⟩, hbc⟩ | exact tail T H X5 X6 W1 ⟨⟨hT, hH, h5, h6, by omega, by omega, by omega, by omega, by omega⟩, hbc⟩ | exact tail T H X5 X6 W3 ⟨⟨hT, hH, h5, h6, by omega, by omega, by omega, by omega, by omega⟩, hbc⟩ | exact tail T H X5 X6 W4 ⟨⟨hT, hH, h5, h6, by omega, by omega, by omega, by omega, by omega⟩, hbc⟩ | exact tail T H X5 X6 W5 ⟨⟨hT, hH, h5, h6, by omega, by omega, by omega, by omega, by omega⟩, hbc⟩
   ·go_simp
    obtain ⟨X5, W4, eX5, fX5, h5, hbX5⟩ := any_box _ (.cells #[.slice none 0 0] 152); rw [fX5, eX5]; clear fX5; have zX5 : V.heap.size ≤ X5 := by rw [← eX5]; exact hbc.size
    try have lTX5 : T < X5 := by have := lt_of_heap hT; omega
    try replace hT := keep_heap hT hbX5
    try have lHX5 : H < X5 := by have := lt_of_heap hH; omega
    try replace hH := keep_heap hH hbX5
    try have lX6X5 : X6 < X5 := by have := lt_of_heap h6; omega
    try replace h6 := keep_heap h6 hbX5
    replace hbc := below_step hbc hbX5; replace hC := HS.out _ hbc; clear eX5 hbX5; go_wp2_with fail
    refine hK.out _ _ (fun _ => ?_) ?_
    ·(exact hC)
    clear hK K; try simp only [Act.put, sEt, sE0, sE1]
    refine readyC (rs := [1, 3]) (by kernel_rfl) (by simp) (each_cons (runC o80_1_1 (by rfl) (fun K hK => ?_)) (each_cons (runC o80_1_3 (by rfl) (fun K hK => ?_)) each_nil))
    ·go_simp
     obtain ⟨T, W1, eT, fT, hT, hbT⟩ := any_box _ (.cells (madeCells #[.bool false] P) 4); rw [fT, eT]; clear fT; have zT : V.heap.size ≤ T := by rw [← eT]; exact hbc.size
     try have lHT : H < T := by have := lt_of_heap hH; omega
     try replace hH := keep_heap hH hbT
     try have lX5T : X5 < T := by have := lt_of_heap h5; omega
     try replace h5 := keep_heap h5 hbT
     try have lX6T : X6 < T := by have := lt_of_heap h6; omega
     try replace h6 := keep_heap h6 hbT
     replace hbc := below_step hbc hbT; replace hC := HS.out _ hbc; clear eT hbT; go_wp2_with fail
     refine hK.out _ _ (fun _ => ?_) ?_
     ·(exact hC)
     clear hK K; try simp only [Act.put, sEt, sE0, sE1]
     refine readyC (rs := [3, 6]) (by kernel_rfl) (by simp) (each_cons (runC o80_1_3 (by rfl) (fun K hK => ?_)) (each_cons (runC o80_1_6 (by rfl) (fun K hK => ?_)) each_nil))
     ·go_simp
      obtain ⟨H, W3, eH, fH, hH, hbH⟩ := any_box _ (.cells (madeCells #[.int .i64 0] P) 3); rw [fH, eH]; clear fH; have zH : V.heap.size ≤ H := by rw [← eH]; exact hbc.size
      try have lTH : T < H := by have := lt_of_heap hT; omega
      try replace hT := keep_heap hT hbH
      try have lX5H : X5 < H := by have := lt_of_heap h5; omega
      try replace h5 := keep_heap h5 hbH
      try have lX6H : X6 < H := by have := lt_of_heap h6; omega
      try replace h6 := keep_heap h6 hbH
      replace hbc := below_step hbc hbH; replace hC := HS.out _ hbc; clear eH hbH; go_wp2_with fail
      refine hK.out _ _ (fun _ => ?_) ?_
      ·(exact hC)
      clear hK K; try simp only [Act.put, sEt, sE0, sE1]
      refine readyC (rs := [6]) (by kernel_rfl) (by simp) (each_cons (runC o80_1_6 (by rfl) (fun K hK => ?_)) each_nil)
      have c5 := cell_at h5 0 rfl; have f5 := free_of h5 0; go_simp; obtain ⟨W6, e6, h5n, hk6, hb6⟩ := set_box h5 (.slice (some ⟨T, 0, none⟩) P P); rw [e6]; clear e6 c5 f5; replace hT := hk6 _ _ hT (by omega)
      try replace hH := hk6 _ _ hH (by omega)
      try replace h6 := hk6 _ _ h6 (by omega)
      replace h5 := h5n; replace hbc := hb6 _ _ zX5 hbc; replace hC := HS.out _ hbc; clear h5n hk6 hb6; refine hK.out _ _ (fun _ => ?_) ?_
      ·(exact hC)
      clear hK K; try simp only [sEt, sE0, sE1]
      refine sameC (l' := (bQ 8 127)) (by kernel_rfl) ?_
      first | exact tail T H X5 X6 W6 ⟨⟨hT, hH, h5, h6, by omega, by omega, by omega, by omega, by omega⟩, hbc⟩ | exact tail T H X5 X6 W1 ⟨⟨hT, hH, h5, h6, by omega, by omega, by omega, by omega, by omega⟩, hbc⟩ | exact tail T H X5 X6 W3 ⟨⟨hT, hH, h5, h6, by omega, by omega, by omega, by omega, by omega⟩, hbc⟩ | exact tail T H X5 X6 W4 ⟨⟨hT, hH, h5, h6, by omega, by omega, by omega, by omega, by omega⟩, hbc⟩ | exact tail T H X5 X6 W5 ⟨⟨hT, hH, h5, h6, by omega, by omega, by omega, by omega, by omega⟩, hbc⟩
     ·have c5 := cell_at h5 0 rfl
      have f5 := free_of h5 0; go_simp; obtain ⟨W6, e6, h5n, hk6, hb6⟩ := set_box h5 (.slice (some ⟨T, 0, none⟩) P P); rw [e6]; clear e6 c5 f5; replace hT := hk6 _ _ hT (by omega)
      try replace hH := hk6 _ _ hH (by omega)
      try replace h6 := hk6 _ _ h6 (by omega)
      replace h5 := h5n; replace hbc := hb6 _ _ zX5 hbc; replace hC := HS.out _ hbc; clear h5n hk6 hb6; refine hK.out _ _ (fun _ => ?_) ?_
      ·(exact hC)
      clear hK K; try simp only [sEt, sE0, sE1]
      refine readyC (rs := [3]) (by kernel_rfl) (by simp) (each_cons (runC o80_1_3 (by rfl) (fun K hK => ?_)) each_nil)
      go_simp; obtain ⟨H, W3, eH, fH, hH, hbH⟩ := any_box _ (.cells (madeCells #[.int .i64 0] P) 3); rw [fH, eH]; clear fH; have zH : V.heap.size ≤ H := by rw [← eH]; exact hbc.size
      try have lTH : T < H := by have := lt_of_heap hT; omega
      try replace hT := keep_heap hT hbH
      try have lX5H : X5 < H := by have := lt_of_heap h5; omega
      try replace h5 := keep_heap h5 hbH
      try have lX6H : X6 < H := by have := lt_of_heap h6; omega
      try replace h6 := keep_heap h6 hbH
      replace hbc := below_step hbc hbH; replace hC := HS.out _ hbc; clear eH hbH; go_wp2_with fail
      refine hK.out _ _ (fun _ => ?_) ?_
      ·(exact hC)
      clear hK K; try simp only [Act.put, sEt, sE0, sE1]
      refine sameC (l' := (bQ 8 127)) (by kernel_rfl) ?_
      first | exact tail T H X5 X6 W6 ⟨⟨hT, hH, h5, h6, by omega, by omega, by omega, by omega, by omega⟩, hbc⟩ | exact tail T H X5 X6 W1 ⟨⟨hT, hH, h5, h6, by omega, by omega, by omega, by omega, by omega⟩, hbc⟩ | exact tail T H X5 X6 W3 ⟨⟨hT, hH, h5, h6, by omega, by omega, by omega, by omega, by omega⟩, hbc⟩ | exact tail T H X5 X6 W4 ⟨⟨hT, hH, h5, h6, by omega, by omega, by omega, by omega, by omega⟩, hbc⟩ | exact tail T H X5 X6 W5 ⟨⟨hT, hH, h5, h6, by omega, by omega, by omega, by omega, by omega⟩, hbc⟩
    ·go_simp
     obtain ⟨H, W3, eH, fH, hH, hbH⟩ := any_box _ (.cells (madeCells #[.int .i64 0] P) 3); rw [fH, eH]; clear fH; have zH : V.heap.size ≤ H := by rw [← eH]; exact hbc.size
     try have lTH : T < H := by have := lt_of_heap hT; omega
     try replace hT := keep_heap hT hbH
     try have lX5H : X5 < H := by have := lt_of_heap h5; omega
     try replace h5 := keep_heap h5 hbH
     try have lX6H : X6 < H := by have := lt_of_heap h6; omega
     try replace h6 := keep_heap h6 hbH
     replace hbc := below_step hbc hbH; replace hC := HS.out _ hbc; clear eH hbH; go_wp2_with fail
     refine hK.out _ _ (fun _ => ?_) ?_
     ·(exact hC)
     clear hK K; try simp only [Act.put, sEt, sE0, sE1]
     refine readyC (rs := [1]) (by kernel_rfl) (by simp) (each_cons (runC o80_1_1 (by rfl) (fun K hK => ?_)) each_nil)
     go_simp; obtain ⟨T, W1, eT, fT, hT, hbT⟩ := any_box _ (.cells (madeCells #[.bool false] P) 4); rw [fT, eT]; clear fT; have zT : V.heap.size ≤ T := by rw [← eT]; exact hbc.size
     try have lHT : H < T := by have := lt_of_heap hH; omega
     try replace hH := keep_heap hH hbT
     try have lX5T : X5 < T := by have := lt_of_heap h5; omega
     try replace h5 := keep_heap h5 hbT
     try have lX6T : X6 < T := by have := lt_of_heap h6; omega
     try replace h6 := keep_heap h6 hbT
     replace hbc := below_step hbc hbT; replace hC := HS.out _ hbc; clear eT hbT; go_wp2_with fail
     refine hK.out _ _ (fun _ => ?_) ?_
     ·(exact hC)
     clear hK K; try simp only [Act.put, sEt, sE0, sE1]
     refine readyC (rs := [6]) (by kernel_rfl) (by simp) (each_cons (runC o80_1_6 (by rfl) (fun K hK => ?_)) each_nil)
     have c5 := cell_at h5 0 rfl; have f5 := free_of h5 0; go_simp; obtain ⟨W6, e6, h5n, hk6, hb6⟩ := set_box h5 (.slice (some ⟨T, 0, none⟩) P P); rw [e6]; clear e6 c5 f5; replace hT := hk6 _ _ hT (by omega)
     try replace hH := hk6 _ _ hH (by omega)
     try replace h6 := hk6 _ _ h6 (by omega)
     replace h5 := h5n; replace hbc := hb6 _ _ zX5 hbc; replace hC := HS.out _ hbc; clear h5n hk6 hb6; refine hK.out _ _ (fun _ => ?_) ?_
     ·(exact hC)
     clear hK K; try simp only [sEt, sE0, sE1]
     refine sameC (l' := (bQ 8 127)) (by kernel_rfl) ?_
     first | exact tail T H X5 X6 W6 ⟨⟨hT, hH, h5, h6, by omega, by omega, by omega, by omega, by omega⟩, hbc⟩ | exact tail T H X5 X6 W1 ⟨⟨hT, hH, h5, h6, by omega, by omega, by omega, by omega, by omega⟩, hbc⟩ | exact tail T H X5 X6 W3 ⟨⟨hT, hH, h5, h6, by omega, by omega, by omega, by omega, by omega⟩, hbc⟩ | exact tail T H X5 X6 W4 ⟨⟨hT, hH, h5, h6, by omega, by omega, by omega, by omega, by omega⟩, hbc⟩ | exact tail T H X5 X6 W5 ⟨⟨hT, hH, h5, h6, by omega, by omega, by omega, by omega, by omega⟩, hbc⟩
 ·intro T H X5 X6 W ⟨hL, hbc⟩
  have HL := Lib.hid hL; clear hL; refine readyC (rs := [7]) (by kernel_rfl) (by simp) (each_cons (runC o80_1_7 (by rfl) (fun K hK => ?_)) each_nil)
  have hq := HL.out.2.2.2.1; unfold ob6 at hq
  have c6 := cell_at hq 0 rfl; have f6 := free_of hq 0; go_simp; clear hq c6 f6; refine hK.out _ _ (fun h => absurd h (by decide)) ?_
  clear hK K; try simp only [sEt, sE0, sE1]
  refine doneC (by kernel_rfl) ?_ _
  go_wp2_with fail
  go_ret
  obtain ⟨lT, lH, l5, l6, ⟨n1, n2, n3, n4, n5, n6⟩, z1, z2, z3, z4⟩ := HL.out
  have hz := HZ.out; have hzv := HVs.out; have v2 := V2.out; have v3 := V3.out; have l2 := lt_of_heap v2; have l3 := lt_of_heap v3; refine ⟨Z, Z3, X5, X6, T, H, rfl, ⟨by omega, by omega⟩, fun X hX => ?_, ⟨fun _ => false, fun _ => false, fun _ => 0⟩, Valid.start (fun _ _ => rfl), ⟨⟨_, heap_far lT n3, fun p hp => made_get P p hp⟩, ⟨_, heap_far lH n5, fun p hp => made_get P p hp⟩, (fun _ _ h => by cases h), n1⟩, fun b hb => ?_, below_set (Below.trans (by rw [hZ]; exact HbV.out) (hbc.mono (by omega))) (by omega) _⟩
  ·simp only [List.mem_cons, List.not_mem_nil, or_false] at hX
   rcases hX with rfl | rfl | rfl | rfl <;> omega
  ·unfold plBs at hb
   simp only [List.mem_cons, List.not_mem_nil, or_false] at hb
   rcases hb with rfl | rfl | rfl | rfl
   ·exact heap_far (keep_heap v2 hbc) (by omega)
   ·exact heap_far (keep_heap v3 hbc) (by omega)
   ·exact heap_far l5 n6
   ·exact set_cells l6 _
end Go.Proofs.YtfcaokpadodijaaGreat
