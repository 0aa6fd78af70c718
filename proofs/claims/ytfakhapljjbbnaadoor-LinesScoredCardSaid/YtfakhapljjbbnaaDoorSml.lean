/- How lines and worths are drawn. -/
import Derived.Test.YtfakhapljjbbnaaDoorSmk
namespace Go.Proofs.YtfakhapljjbbnaaDoor
open Go.RowKit

theorem heap_gb {w w' : World} {B g : Nat} {o : Obj} (h : w.heap[g]? = some o) (hg : w.grownBy w' (some B)) (hne : g ≠ B) : w'.heap[g]? = some o :=
  (hg.block g (lt_of_heap h) (by intro e; cases e; exact hne rfl)).trans h
theorem heap_al {w : World} {g : Nat} {o : Obj} (h : w.heap[g]? = some o) (o' : Obj) : (w.alloc o').heap[g]? = some o := (heap_alloc_old w o' (lt_of_heap h)).trans h

theorem heap_far {w : World} {X Y o : Nat} {u : Value} {b : Obj} (h : w.heap[X]? = some b) (hne : X ≠ Y) : (w.setCell ⟨Y, o, none⟩ u).heap[X]? = some b := by
  rw [← h]
  exact Below.heap_setCell w _ u X (by simpa using hne)
/-- Stores into one block, one after the other. -/
theorem GS (w : World) (a b c : Value) {X : Nat} : w.grownBy (((w.setCell ⟨X, 0, none⟩ a).setCell ⟨X, 1, none⟩ b).setCell ⟨X, 2, none⟩ c) (some X) := gb_trans (gb_setCell _ _ _ _) (gb_trans (gb_setCell _ _ _ _) (gb_setCell _ _ _ _))
theorem GS2 (w : World) (X : Nat) (a b : Value) : w.grownBy ((w.setCell ⟨X, 0, none⟩ a).setCell ⟨X, 1, none⟩ b) (some X) := gb_trans (gb_setCell _ _ _ _) (gb_setCell _ _ _ _)
/-- The line drawn. -/
def ALn (lo : Nat) (w : World) (v : Value) : Prop := ∃ l x, v = lnV l x ∧ Tds w lo x l.stats ∧ SmallL l
set_option maxRecDepth 100000 in
set_option maxHeartbeats 2000000 in
theorem aLine_calls (B N : Nat) (week : Int) (w : World) (hs : St w B N) (hN : N ≤ 3990000) (hw : Int64 week) :
    Calls Tryd.prog 6 #[.pointer (some ⟨B, 0, none⟩), .int .i64 week] w (Made B (N + 24) (ALn w.heap.size) w) := by
  have hBw := hs.lt
  have Hw := Lib.hid hw
  clear hw
  have hx0 := heap_alloc_new w (.cells #[.string ⟨#[]⟩, .int .i64 0, .slice none 0 0] 32)
  go_enter Tryd.func6, Tryd.ntmps6
  go_wp2_with fail
  refine (stats_calls B N _ (hs.alloc _) (by omega)).mono ?_
  rintro e w1 ⟨v, ⟨ts, hT, htl, hts⟩, rfl, hs1, hg1⟩
  have hx1 := heap_gb hx0 hg1 (by omega)
  have hT := hT.mono (show w.heap.size ≤ _ by simp)
  have hg01 := gb_trans (gb_alloc w (.cells #[.string ⟨#[]⟩, .int .i64 0, .slice none 0 0] 32) (some B)) hg1
  have Hts := Lib.hid hts
  have hsz1 := hg01.size
  obtain ⟨ta, tc, rfl⟩ := tds_shape hT
  clear hs hx0 hg1 hts
  obtain ⟨X, hX⟩ : ∃ X, X = w1.heap.size := ⟨_, rfl⟩
  have hlt1 := lt_of_heap hx1
  have hy1 : (w1.alloc (.cells #[.string E_ann, .int .i64 week, .slice ta ts.length tc] 32)).heap[X]? = some (.cells #[.string E_ann, .int .i64 week, .slice ta ts.length tc] 32 (0, 0)) := by rw [hX]; exact heap_alloc_new w1 _
  have hx2 := heap_al hx1 (.cells #[.string E_ann, .int .i64 week, .slice ta ts.length tc] 32)
  have hT2 := hT.below (below_alloc w1 (.cells #[.string E_ann, .int .i64 week, .slice ta ts.length tc] 32))
  go_wp2_with fail
  refine (flip_calls B _ 40 _ (hs1.alloc _) (by omega) (by omega) (by omega)).mono ?_
  rintro e w2 ⟨v, ⟨b, rfl⟩, rfl, hs2, hg2⟩
  have hx3 := heap_gb hx2 hg2 (by omega)
  have hy3 := heap_gb hy1 hg2 (by omega)
  have hT3 := hT2.other hg2 hBw
  have hg02 := gb_trans hg01 (gb_trans (gb_alloc w1 _ _) hg2)
  have hsz2 := hg02.size
  rw [← hX]
  have hXw : w.heap.size < X := by omega
  have hne : w.heap.size ≠ X := by omega
  clear hx1 hx2 hy1 hT hT2 hg2 hs1 hX hg01
  cases b
  · have z0 := cell_at hx3 0 rfl
    have z1 := cell_at hx3 1 rfl
    have z2 := cell_at hx3 2 rfl
    have f0 := free_of hx3 0
    have f1 := free_of hx3 1
    have f2 := free_of hx3 2
    have y0 := cell_at hy3 0 rfl
    have y1 := cell_at hy3 1 rfl
    have y2 := cell_at hy3 2 rfl
    go_wp2_with fail
    try simp only [Exit.inBlock, Exit.then]
    refine bodyPost_ret (v := lnV ⟨E_ann, week, ts⟩ (.slice ta ts.length tc)) ?_ rfl ⟨_, ⟨⟨E_ann, week, ts⟩, _, rfl, ?_, (show E_ann.size ≤ 1000 by decide), Hw.out, by show ts.length ≤ 1000; omega, Hts.out⟩, rfl, ?_, ?_⟩
    · rw [results_cell1 rfl]
      unfold lnV
      go_simp
    · exact Rows.row hT3 (GS _ _ _ _) fun r hr => ⟨_, _, _, by cases hr; exact hx3, by decide⟩
    · exact (hs2.grown (GS _ _ _ _) fun r hr => by cases hr; exact hBw).mono (by omega)
    · exact gb_then hg02 (GS _ _ _ _) fun r hr => by cases hr; exact Nat.le_refl _
  · have y0 := cell_at hy3 0 rfl
    have y1 := cell_at hy3 1 rfl
    have y2 := cell_at hy3 2 rfl
    have g0 := free_of hy3 0
    have g1 := free_of hy3 1
    go_wp2_with fail
    refine (some_calls B _ w2.heap.size _ [E_none, E_ann] _ (hs2.alloc _) (by omega) (strs_new w2 [E_none, E_ann] (by decide)) hs2.lt (by simp)).mono ?_
    rintro e w3 ⟨v, ⟨k, rfl, hk⟩, rfl, hs3, hg3⟩
    have Hk := Lib.hid (small_of' (by decide) hk)
    have hx4 := heap_gb (heap_al hx3 (.cells ([E_none, E_ann].map Value.string).toArray 9)) hg3 (by omega)
    have hlt3 := lt_of_heap hy3
    have hy4 := heap_gb (heap_al hy3 (.cells ([E_none, E_ann].map Value.string).toArray 9)) hg3 (by omega)
    have hT4 := (hT3.below (below_alloc w2 (.cells ([E_none, E_ann].map Value.string).toArray 9))).other hg3 hBw
    have hg03 : w.grownBy w3 (some B) := gb_trans hg02 (gb_trans (gb_alloc w2 _ _) hg3)
    clear hk hx3 hy3 hT3 hg3 hs2 hg02 y0 y1 y2 g0 g1
    go_wp2_with fail
    refine (odd_calls B _ 1 60 w3 hs3 (by omega) (by omega) (by omega) (by omega)).mono ?_
    rintro e w4 ⟨v, ⟨c, rfl, hc1, hc2⟩, rfl, hs4, hg4⟩
    have Hc := Lib.hid (show Int64 c by unfold Int64; omega)
    have hx5 := heap_gb hx4 hg4 (by omega)
    have hy5 := heap_gb hy4 hg4 (by omega)
    have hT5 := hT4.other hg4 hBw
    have hg04 : w.grownBy w4 (some B) := gb_trans hg03 hg4
    have z0 := cell_at hx5 0 rfl
    have z1 := cell_at hx5 1 rfl
    have z2 := cell_at hx5 2 rfl
    have f0 := free_of hx5 0
    have f1 := free_of hx5 1
    have f2 := free_of hx5 2
    have y0 := cell_at hy5 0 rfl
    have y1 := cell_at hy5 1 rfl
    have y2 := cell_at hy5 2 rfl
    have g0 := free_of hy5 0
    have g1 := free_of hy5 1
    clear hc1 hc2 hx4 hy4 hT4 hg4 hs3 hg03
    go_wp2_with fail
    try simp only [Exit.inBlock, Exit.then]
    refine bodyPost_ret (v := lnV ⟨k, c, ts⟩ (.slice ta ts.length tc)) ?_ rfl ⟨_, ⟨⟨k, c, ts⟩, _, rfl, ?_, Hk.out, Hc.out, by show ts.length ≤ 1000; omega, Hts.out⟩, rfl, ?_, ?_⟩
    · rw [results_cell1 rfl]
      unfold lnV
      go_simp
    · refine Rows.row (Rows.row hT5 (GS2 _ X _ _) fun r hr => ⟨_, _, _, by cases hr; exact hy5, by decide⟩) (GS _ _ _ _) fun r hr => ⟨_, _, _, by cases hr; exact heap_far (heap_far hx5 hne) hne, by decide⟩
    · exact ((hs4.grown (GS2 _ X _ _) fun r hr => by cases hr; omega).grown (GS _ _ _ _) fun r hr => by cases hr; exact hBw).mono (by omega)
    · exact gb_then (gb_then hg04 (GS2 _ X _ _) fun r hr => by cases hr; omega) (GS _ _ _ _) fun r hr => by cases hr; exact Nat.le_refl _
end Go.Proofs.YtfakhapljjbbnaaDoor
