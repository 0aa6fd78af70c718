/- How worths and rules are drawn. -/
import Derived.Test.YtmejjkicagkogaaGreatDoorSml
namespace Go.Proofs.YtmejjkicagkogaaGreatDoor
open Go.RowKit

/-- The cells of some fractions. -/
def frCells (fs : List (Int × Int)) : List Value := (fs.map fun f => [Value.int .i64 f.1, .int .i64 f.2]).flatten
def worthsA : List (Int × Int) := [(1, 1), (4, 1), (1, 25), (1, 2), (-2, 1), (0, 1), (7, 100)]
def worthsB : List (Int × Int) := [(2, 4), (1, 3), (1, 0), (-1, -1), (1, 200), (10001, 1), (-9223372036854775808, 1), (1, 4611686018427387904), (0, 2)]
theorem fr_pick {fs : List (Int × Int)} (hfs : fs.all (fun f => decide (-9223372036854775808 ≤ f.1 ∧ f.1 ≤ 9223372036854775807 ∧ -9223372036854775808 ≤ f.2 ∧ f.2 ≤ 9223372036854775807)) = true) {w : World} {T g r : Nat} {cur : Array Value} (h : w.heap[g]? = some (.cells cur T (0, 0))) (hc : cur = (frCells fs).toArray) (hr : r < fs.length) :
    ∃ n d : Int, w.cell? ⟨g, r * 2, none⟩ = some (.int .i64 n) ∧ w.cell? ⟨g, r * 2 + 1, none⟩ = some (.int .i64 d) ∧ Int64 n ∧ Int64 d := by
  obtain ⟨f, hf⟩ : ∃ f, fs[r]? = some f := ⟨fs[r], List.getElem?_eq_getElem hr⟩
  have hm := (List.all_eq_true.1 hfs) f (List.mem_of_getElem? hf)
  simp only [decide_eq_true_eq] at hm
  have hx : ∀ (j : Nat) (u : Value), [Value.int .i64 f.1, .int .i64 f.2][j]? = some u → w.cell? ⟨g, r * 2 + j, none⟩ = some u := by
    intro j u hu
    have := flat_at (sz := 2) (fs.map fun f => [Value.int .i64 f.1, .int .i64 f.2]) (by
      intro x hx; obtain ⟨y, _, rfl⟩ := List.mem_map.1 hx; rfl) r j u (by simpa [hf] using hu)
    rw [cell_of_row w g _ cur T (0, 0) h, hc, List.getElem?_toArray]
    exact this
  exact ⟨f.1, f.2, hx 0 _ rfl, hx 1 _ rfl, ⟨hm.1, hm.2.1⟩, hm.2.2⟩
def AFr (_ : World) (v : Value) : Prop := ∃ n d, v = frV (n, d) ∧ Int64 n ∧ Int64 d
set_option maxRecDepth 100000 in
set_option maxHeartbeats 2000000 in
theorem worth_calls (B N : Nat) (w : World) (hs : St w B N) (hN : N ≤ 3990000) :
    Calls Tryz.prog 18 #[.pointer (some ⟨B, 0, none⟩)] w (Made B (N + 4) AFr w) := by
  have hBw := hs.lt
  obtain ⟨C1, hC1⟩ : ∃ C1, C1 = (frCells worthsA).toArray := ⟨_, rfl⟩
  have hx0 := heap_alloc_new w (.cells #[.int .i64 0, .int .i64 0] 38)
  have hl0 := heap_alloc_new (w.alloc (.cells #[.int .i64 0, .int .i64 0] 38)) (.cells C1 38)
  have hx1 := heap_al hx0 (.cells C1 38)
  rw [World.size_alloc] at hl0
  go_enter Tryz.func18, Tryz.ntmps18
  go_wp2_with fail
  rw [show (#[Value.int .i64 1, .int .i64 1, .int .i64 4, .int .i64 1, .int .i64 1, .int .i64 25, .int .i64 1, .int .i64 2, .int .i64 (-2), .int .i64 1, .int .i64 0, .int .i64 1, .int .i64 7, .int .i64 100] : Array Value) = C1 from hC1.symm ▸ rfl]
  refine (next_calls B N 7 _ ((hs.alloc _).alloc _) (by omega) (by omega) (by omega)).mono ?_
  rintro e w1 ⟨v, ⟨r, rfl, hr⟩, rfl, hs1, hg1⟩
  have hx2 := heap_gb hx1 hg1 (by omega)
  have hl2 := heap_gb hl0 hg1 (by omega)
  obtain ⟨n, d, p0, p1, hn, hd⟩ := fr_pick (fs := worthsA) (by decide) hl2 hC1 (by show r < 7; omega)
  have Hn := Lib.hid hn
  have Hd := Lib.hid hd
  have hg01 : w.grownBy w1 (some B) := gb_trans (gb_alloc w _ _) (gb_trans (gb_alloc _ _ _) hg1)
  have hlt2 := lt_of_heap hx2
  clear hx0 hx1 hl0 hl2 hC1 hg1 hn hd hs
  go_wp2_with fail
  obtain ⟨X, hX⟩ : ∃ X, X = w1.heap.size := ⟨_, rfl⟩
  have hX0 : w.heap.size < X := by omega
  have hy3 : (w1.alloc (.cells #[.int .i64 n, .int .i64 d] 38)).heap[X]? = some (.cells #[.int .i64 n, .int .i64 d] 38 (0, 0)) := by rw [hX]; exact heap_alloc_new w1 _
  have hx3 := heap_al hx2 (.cells #[.int .i64 n, .int .i64 d] 38)
  refine (flip_calls B _ 25 _ (hs1.alloc _) (by omega) (by omega) (by omega)).mono ?_
  rintro e w2 ⟨v, ⟨b, rfl⟩, rfl, hs2, hg2⟩
  have hx4 := heap_gb hx3 hg2 (by omega)
  have hy4 := heap_gb hy3 hg2 (by omega)
  have hg02 : w.grownBy w2 (some B) := gb_trans hg01 (gb_trans (gb_alloc w1 _ _) hg2)
  rw [← hX]
  clear hx2 hx3 hy3 hg2 hs1 hg01 p0 p1 hX hlt2
  cases b
  · have z0 := cell_at hx4 0 rfl
    have z1 := cell_at hx4 1 rfl
    have f0 := free_of hx4 0
    have f1 := free_of hx4 1
    have y0 := cell_at hy4 0 rfl
    have y1 := cell_at hy4 1 rfl
    go_wp2_with fail
    try simp only [Exit.inBlock, Exit.then]
    refine bodyPost_ret (v := frV (n, d)) ?_ rfl ⟨_, ⟨n, d, rfl, Hn.out, Hd.out⟩, rfl, ?_, ?_⟩
    · rw [results_cell1 rfl]
      unfold frV
      go_simp
    · exact (hs2.grown (GS2 _ w.heap.size _ _) fun r hr => by cases hr; exact hBw).mono (by omega)
    · exact gb_then hg02 (GS2 _ w.heap.size _ _) fun r hr => by cases hr; exact Nat.le_refl _
  · obtain ⟨C2, hC2⟩ : ∃ C2, C2 = (frCells worthsB).toArray := ⟨_, rfl⟩
    have hl5 := heap_alloc_new w2 (.cells C2 38)
    have hx5 := heap_al hx4 (.cells C2 38)
    have hy5 := heap_al hy4 (.cells C2 38)
    have hB2 := hs2.lt
    go_wp2_with fail
    rw [show (#[Value.int .i64 2, .int .i64 4, .int .i64 1, .int .i64 3, .int .i64 1, .int .i64 0, .int .i64 (-1), .int .i64 (-1), .int .i64 1, .int .i64 200, .int .i64 10001, .int .i64 1, .int .i64 (-9223372036854775808), .int .i64 1, .int .i64 1, .int .i64 4611686018427387904, .int .i64 0, .int .i64 2] : Array Value) = C2 from hC2.symm ▸ rfl]
    refine (next_calls B _ 9 _ (hs2.alloc _) (by omega) (by omega) (by omega)).mono ?_
    rintro e w3 ⟨v, ⟨r, rfl, hr⟩, rfl, hs3, hg3⟩
    have hx6 := heap_gb hx5 hg3 (by omega)
    have hy6 := heap_gb hy5 hg3 (by omega)
    have hl6 := heap_gb hl5 hg3 (by omega)
    have Hl6 := Lib.hid (lt_of_heap hl6)
    obtain ⟨n, d, p0, p1, hn, hd⟩ := fr_pick (fs := worthsB) (by decide) hl6 hC2 (by show r < 9; omega)
    have Hn := Lib.hid hn
    have Hd := Lib.hid hd
    have hg03 : w.grownBy w3 (some B) := gb_trans hg02 (gb_trans (gb_alloc w2 _ _) hg3)
    have z0 := cell_at hx6 0 rfl
    have z1 := cell_at hx6 1 rfl
    have f0 := free_of hx6 0
    have f1 := free_of hx6 1
    have y0 := cell_at hy6 0 rfl
    have y1 := cell_at hy6 1 rfl
    have g0 := free_of hy6 0
    have g1 := free_of hy6 1
    have hne : w.heap.size ≠ X := by omega
    clear hx4 hy4 hl5 hx5 hy5 hl6 hC2 hg3 hn hd hs2 hg02
    go_wp2_with fail
    try simp only [Exit.inBlock, Exit.then]
    refine bodyPost_ret (v := frV (n, d)) ?_ rfl ⟨_, ⟨n, d, rfl, Hn.out, Hd.out⟩, rfl, ?_, ?_⟩
    · rw [results_cell1 rfl]
      unfold frV
      go_simp
    · exact ((hs3.grown (GS2 _ X _ _) fun r hr => by cases hr; omega).grown (GS2 _ w.heap.size _ _) fun r hr => by cases hr; exact hBw).mono (by omega)
    · exact gb_then (gb_then hg03 (GS2 _ X _ _) fun r hr => by cases hr; omega) (GS2 _ w.heap.size _ _) fun r hr => by cases hr; exact Nat.le_refl _
end Go.Proofs.YtmejjkicagkogaaGreatDoor
