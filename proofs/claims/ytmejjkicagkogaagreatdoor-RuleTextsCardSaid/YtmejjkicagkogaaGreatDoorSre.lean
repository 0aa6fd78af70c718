/- The one example. -/
import Derived.Test.YtmejjkicagkogaaGreatDoorSph
namespace Go.Proofs.YtmejjkicagkogaaGreatDoor
open Go.RowKit

theorem one_row {w : World} {T g sz cap : Nat} {row : List Value} (h : w.heap[g]? = some (.cells row.toArray T (0, 0))) (hr : row.length = sz) (hc : 1 ≤ cap) : Rows w T 0 sz (.slice (some ⟨g, 0, none⟩) 1 cap) [row] := by
  refine ⟨by simp, by simpa using hr, .inr ⟨g, 0, cap, _, _, rfl, ⟨Nat.zero_le _, by simpa using hc⟩, h, fun i j u hu => ?_⟩⟩
  match i, hu with
  | 0, hu => simpa using hu
  | i + 1, hu => simp at hu
def exR : RD := ⟨⟨#[114]⟩, E_goal, ⟨#[]⟩, 1, 0, 1, 2⟩
def exT : TD := ⟨E_goal, 3⟩
def exL : LD := ⟨E_a, 1, [exT]⟩
theorem ex_e : ptsE [exR] [] exL = 0 := by kernel_rfl
theorem ex_f : ptsF [exR] [] exL = (3, 2) := by kernel_rfl
set_option maxRecDepth 100000 in
set_option maxHeartbeats 2000000 in
theorem scored_calls (w : World) : Calls Tryz.prog 12 #[] w fun e w' => e = .returned (.bool true) ∧ Below w.heap.size w w' := by
  obtain ⟨W, hW⟩ : ∃ W, W = (w.alloc (.cells (rlRow exR).toArray 40)).alloc (.cells (stRow exT).toArray 75) := ⟨_, rfl⟩
  have hwW : Below w.heap.size w W := by rw [hW]; exact (below_alloc w _).trans ((below_alloc _ _).mono (by simp))
  have hx : W.heap[w.heap.size]? = some (.cells (rlRow exR).toArray 40 (0, 0)) := by rw [hW]; exact heap_al (heap_alloc_new w _) _
  have hy : W.heap[w.heap.size + 1]? = some (.cells (stRow exT).toArray 75 (0, 0)) := by
    rw [hW]; have := heap_alloc_new (w.alloc (.cells (rlRow exR).toArray 40)) (.cells (stRow exT).toArray 75); rwa [World.size_alloc] at this
  have hC := points2_calls 0 0 0 (.slice (some ⟨w.heap.size, 0, none⟩) 1 1) (.slice none 0 0) (.slice (some ⟨w.heap.size + 1, 0, none⟩) 1 1) [exR] [] exL W (one_row hx rfl (Nat.le_refl _)) (by simp [SmallR, exR, Int64]; decide) (by simp) ⟨by simp, by simp, .inl ⟨rfl, rfl⟩⟩ (by simp) (by simp) (one_row hy rfl (Nat.le_refl _)) (by simp [SmallL, SmallT, exL, exT, Int64]; decide)
  rw [ex_e, ex_f] at hC
  have HC := Lib.hid hC
  have HwW := Lib.hid hwW
  clear hx hy hwW hC
  unfold lnV exL exT E_a TwoIs frV at HC
  unfold rlRow stRow exR exT E_goal at hW
  go_enter Tryz.func12, Tryz.ntmps12
  go_wp2_with fail
  change Calls _ _ _ ((w.alloc (.cells #[.string ⟨#[114]⟩, .string ⟨#[103, 111, 97, 108]⟩, .string ⟨#[]⟩, .int .i64 1, .int .i64 0, .int .i64 1, .int .i64 2] 40)).alloc (.cells #[.string ⟨#[103, 111, 97, 108]⟩, .int .i64 3] 75)) _
  have HW := Lib.hid hW
  clear hW
  rw [← HW.out]
  refine HC.out.mono ?_
  rintro e w' ⟨rfl, hb'⟩
  have hb := below_step HwW.out hb'
  clear hb'
  go_wp2_with fail
  have hx := heap_alloc_new w' (.cells #[.int .i64 3, .int .i64 2] 38)
  have hb2 := below_step hb (below_alloc w' (.cells #[.int .i64 3, .int .i64 2] 38))
  go_ret
  exact ⟨rfl, hb2⟩
end Go.Proofs.YtmejjkicagkogaaGreatDoor
