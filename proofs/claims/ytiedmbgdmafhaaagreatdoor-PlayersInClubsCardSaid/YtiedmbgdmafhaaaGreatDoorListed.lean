/- The law's one example: listed. -/
import Derived.Test.YtiedmbgdmafhaaaGreatDoorPureb
namespace Go.Proofs.YtiedmbgdmafhaaaGreatDoor
open Go.RowKit

theorem plays_one (w : World) (p : PD) (h : p.pos.length ≤ 1000000) :
    Plays ((w.alloc (.cells (p.pos.map Value.string).toArray 9)).alloc (.cells #[.string p.key, .string p.name, .slice (some ⟨w.heap.size, 0, none⟩) p.pos.length p.pos.length] 86)) w.heap.size (.slice (some ⟨w.heap.size + 1, 0, none⟩) 1 1) [p] := by
  refine ⟨[.slice (some ⟨w.heap.size, 0, none⟩) p.pos.length p.pos.length], rfl, ?_, ?_⟩
  · refine Rows.of_owns (rows := [[.string p.key, .string p.name, .slice (some ⟨w.heap.size, 0, none⟩) p.pos.length p.pos.length]]) ?_ (by simp) (by simp)
    have := World.ownsRow_lit (base := w.heap.size) (e := 86) (size := 3) (w.alloc (.cells (p.pos.map Value.string).toArray 9)) #[.string p.key, .string p.name, .slice (some ⟨w.heap.size, 0, none⟩) p.pos.length p.pos.length] 1 (by simp) (by unfold maxLen; omega) rfl
    simpa using this
  · intro i x q hx hq
    match i, hx, hq with
    | 0, hx, hq =>
      simp at hx hq
      subst hx; subst hq
      exact (strs_new w p.pos h).below (below_alloc _ _)

set_option maxRecDepth 100000 in
set_option maxHeartbeats 2000000 in
theorem listed_calls (w : World) (hG : Glob w) : Calls Tryz.prog 26 #[] w (BoolIs true w) := by
  have hp := plays_one w ⟨⟨#[97]⟩, N0, [⟨#[100, 102]⟩]⟩ (by simp)
  have hb := below_step (below_alloc w (.cells #[.string ⟨#[100, 102]⟩] 9)) (below_alloc _ (.cells #[.string ⟨#[97]⟩, .string N0, .slice (some ⟨w.heap.size, 0, none⟩) 1 1] 86))
  have HC := Lib.hid (findL_calls w.heap.size _ P0 Q0 _ hp (fun p h => by
    simp only [P0, List.mem_singleton] at h
    subst h
    exact ⟨by unfold SmallP; decide +kernel, q0_ok.2⟩) (by simp [P0]) (hG.below hb) q0_ok.1)
  rw [p0_e, p0_r] at HC
  have HB := Lib.hid hb
  clear hp hb hG
  go_enter Tryz.func26, Tryz.ntmps26
  go_wp2_with fail
  refine HC.out.mono ?_
  rintro e w1 ⟨v, hv, rfl, hb1⟩
  obtain ⟨a, c, rfl⟩ := owns_shape hv
  have hb2 := below_step HB.out hb1
  have hS := strs_of_owns hv (by simp)
  have HE := Lib.hid (equal_calls _ _ _ _ [⟨#[97]⟩] [⟨#[97]⟩] _ (hS.below (below_alloc w1 (.cells #[.string ⟨#[97]⟩] 9))) (strs_new w1 [⟨#[97]⟩] (by simp)) (by simp) (by simp))
  clear hS hv hb1 HB
  go_wp2_with fail
  refine HE.out.mono ?_
  rintro e w2 ⟨rfl, hb3⟩
  go_wp2_with fail
  go_ret
  exact ⟨rfl, below_step (below_step hb2 (below_alloc w1 _)) hb3⟩
end Go.Proofs.YtiedmbgdmafhaaaGreatDoor
