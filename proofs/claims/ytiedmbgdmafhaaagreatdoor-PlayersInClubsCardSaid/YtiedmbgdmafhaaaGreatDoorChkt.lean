/- CheckStints. -/
import Derived.Test.YtiedmbgdmafhaaaGreatDoorChks
namespace Go.Proofs.YtiedmbgdmafhaaaGreatDoor
open Go.RowKit

def chkSt (ps : List PD) (ss : List SD) : Int := firstE [chkPs ps, eachE ss.length 1000 (stF ps ss)]
theorem sts_shape {w : World} {lo : Nat} {v : Value} {ss : List SD} (h : Sts w lo v ss) : ∃ a c, v = .slice a ss.length c := by
  rcases sts_at h with ⟨rfl, rfl⟩ | ⟨g, off, cap, rfl, _⟩
  · exact ⟨none, 0, rfl⟩
  · exact ⟨_, _, rfl⟩
theorem plays_shape {w : World} {lo : Nat} {v : Value} {ps : List PD} (h : Plays w lo v ps) : ∃ a c, v = .slice a ps.length c := by
  rcases plays_at h with ⟨rfl, rfl⟩ | ⟨g, off, cap, rfl, _⟩
  · exact ⟨none, 0, rfl⟩
  · exact ⟨_, _, rfl⟩
theorem Sts.below {w w' : World} {lo : Nat} {v : Value} {ss : List SD} (h : Sts w lo v ss) (hb : Below w.heap.size w w') : Sts w' lo v ss := Rows.below h hb

set_option maxRecDepth 100000 in
set_option maxHeartbeats 2000000 in
theorem checkStints_calls (lo lo' : Nat) (pv v : Value) (ps : List PD) (ss : List SD) (w : World) (hp : Plays w lo' pv ps) (hps : ∀ p ∈ ps, SmallP p) (hpn : ps.length ≤ 1000000) (hG : Glob w) (hS : Sts w lo v ss) (hss : ∀ s ∈ ss, OkS s) (hsn : ss.length ≤ 1000000) :
    Calls Tryz.prog 24 #[pv, v] w (IntBelow (chkSt ps ss) w) := by
  obtain ⟨pa, pc, rfl⟩ := plays_shape hp
  obtain ⟨sa, sc, rfl⟩ := sts_shape hS
  obtain ⟨W, hW⟩ : ∃ W, W = (w.alloc (.cells #[.slice pa ps.length pc] 26)).alloc (.cells #[.slice sa ss.length sc] 28) := ⟨_, rfl⟩
  have hwW : Below w.heap.size w W := by rw [hW]; exact below2 w _ _
  have x0 : W.cell? ⟨w.heap.size, 0, none⟩ = some (.slice pa ps.length pc) := by rw [hW]; exact two_cell0 w _ _ _ _
  have x1 : W.cell? ⟨w.heap.size + 1, 0, none⟩ = some (.slice sa ss.length sc) := by rw [hW]; exact two_cell1 w _ _ _ _
  have hpW := hp.below hwW
  have hSW := hS.below hwW
  have hGW := hG.below hwW
  have HS := Lib.hid (show ∀ w', Below W.heap.size W w' → (Below W.heap.size W w' ∧ Glob w' ∧ Plays w' lo' (.slice pa ps.length pc) ps ∧ Sts w' lo (.slice sa ss.length sc) ss ∧ w'.cell? ⟨w.heap.size, 0, none⟩ = some (.slice pa ps.length pc) ∧ w'.cell? ⟨w.heap.size + 1, 0, none⟩ = some (.slice sa ss.length sc)) from fun w' hb => ⟨hb, hGW.below hb, hpW.below hb, hSW.below hb, below_cell hb x0, below_cell hb x1⟩)
  have hf : ∀ (X W2 : World) (i : Nat), Below W.heap.size W X → i < ss.length → Below X.heap.size X W2 → Calls Tryz.prog 99 (#[.int .i64 (i : Int)] ++ #[.pointer (some ⟨w.heap.size + 1, 0, none⟩), .pointer (some ⟨w.heap.size, 0, none⟩)]) W2 (IntBelow (stF ps ss i) W2) := by
    intro X W2 i hX hi hb
    obtain ⟨_, _, hp2, hS2, y0, y1⟩ := HS.out W2 (below_step hX hb)
    obtain ⟨s, hsi⟩ : ∃ s, ss[i]? = some s := ⟨ss[i], List.getElem?_eq_getElem hi⟩
    rcases sts_at hS2 with ⟨_, rfl⟩ | ⟨g, off, cap, e, _⟩
    · simp at hi
    · rw [e] at hS2 y1
      exact checkStints1_calls (w.heap.size + 1) w.heap.size g off cap i lo lo' pa pc ps ss s W2 hsi (hss s (List.mem_of_getElem? hsi)) hsn y1 y0 hS2 hp2
  have Hf := Lib.hid hf
  have hb0 := (Below.refl W.heap.size W).drew
  clear hf x0 x1 hpW hSW hGW hp hS hG
  go_enter Tryz.func24, Tryz.ntmps24
  go_upto_region 1 with fail
  rw [← hW]
  clear hW
  refine wp_region_held_drew (S := fun w' => Below W.heap.size W w' ∧ Glob w' ∧ Plays w' lo' (.slice pa ps.length pc) ps ∧ Sts w' lo (.slice sa ss.length sc) ss ∧ w'.cell? ⟨w.heap.size, 0, none⟩ = some (.slice pa ps.length pc) ∧ w'.cell? ⟨w.heap.size + 1, 0, none⟩ = some (.slice sa ss.length sc)) (by kernel_rfl) ?_ (fun hHeld => ?_)
  · (exact HS.out _ (by first | assumption | exact hHeld.1 | exact below_step hHeld.1 (by assumption) | exact below_step hHeld.1 (below_alloc _ _)))
  refine take_at 0 5 (v := ?_) rfl rfl (by kernel_rfl) (by kernel_rfl) (by kernel_rfl) (fun _ _ _ h => h) (by rfl) ?y0 (by assumption) ?r0
  case y0 =>
    intro w hSw
    try dsimp only at hSw
    go_simp
    try with_reducible rfl
  simp only [List.set_cons_zero, List.set_cons_succ]
  refine take_at 2 7 (v := ?_) rfl rfl (by kernel_rfl) (by kernel_rfl) (by kernel_rfl) (fun _ _ _ h => h) (by rfl) ?y2 (by assumption) ?r2
  case y2 =>
    intro w hSw
    try dsimp only at hSw
    go_simp
    try with_reducible rfl
  simp only [List.set_cons_zero, List.set_cons_succ]
  refine take_at 3 8 (v := ?_) rfl rfl (by kernel_rfl) (by kernel_rfl) (by kernel_rfl) (fun _ _ _ h => h) (by rfl) ?y3 (by assumption) ?r3
  case y3 =>
    intro w hSw
    try dsimp only at hSw
    go_simp
    try with_reducible rfl
  simp only [List.set_cons_zero, List.set_cons_succ]
  refine take_at 4 9 (v := ?_) rfl rfl (by kernel_rfl) (by kernel_rfl) (by kernel_rfl) (fun _ _ _ h => h) (by rfl) ?y4 (by assumption) ?r4
  case y4 =>
    intro w hSw
    try dsimp only at hSw
    go_simp
    try with_reducible rfl
  simp only [List.set_cons_zero, List.set_cons_succ]
  refine run_at 1 rfl (by kernel_rfl) (by rfl) (fun K hK => ?_)
  go_simp
  refine (checkPlayers_calls lo' _ ps _ (by exact hHeld.2.2.1) hps hpn (by exact hHeld.2.1)).mono ?_
  rintro e w' ⟨rfl, hb⟩
  go_wp2_with fail
  refine hK.out _ _ ?_ (fun hHeld => ?_)
  · (exact HS.out _ (by first | assumption | exact hHeld.1 | exact below_step hHeld.1 (by assumption) | exact below_step hHeld.1 (below_alloc _ _)))
  clear hK K
  try simp only [Act.put, List.setIfInBounds_toArray, List.set_cons_zero, List.set_cons_succ]
  refine run_at 5 rfl (by kernel_rfl) (by rfl) (fun K hK => ?_)
  go_simp
  refine (each_calls 99 #[.pointer (some ⟨w.heap.size + 1, 0, none⟩), .pointer (some ⟨w.heap.size, 0, none⟩)] (enters_of Tryz.func99 (by kernel_rfl) rfl) (stF ps ss) ss.length 1000 _ hsn (by exact fun W2 i hi hb => Hf.out _ W2 i hHeld.1 hi hb)).mono ?_
  rintro e w' ⟨rfl, hb⟩
  go_wp2_with fail
  refine hK.out _ _ ?_ (fun hHeld => ?_)
  · (exact HS.out _ (by first | assumption | exact hHeld.1 | exact below_step hHeld.1 (by assumption) | exact below_step hHeld.1 (below_alloc _ _)))
  clear hK K
  try simp only [Act.put, List.setIfInBounds_toArray, List.set_cons_zero, List.set_cons_succ]
  refine run_at 6 rfl (by kernel_rfl) (by rfl) (fun K hK => ?_)
  go_simp
  refine hK.out _ _ ?_ (fun hHeld => ?_)
  · (exact HS.out _ (by first | assumption | exact hHeld.1 | exact below_step hHeld.1 (by assumption) | exact below_step hHeld.1 (below_alloc _ _)))
  clear hK K
  try simp only [Act.put, List.setIfInBounds_toArray, List.set_cons_zero, List.set_cons_succ]
  refine run_at 7 rfl (by kernel_rfl) (by rfl) (fun K hK => ?_)
  go_simp
  refine (orE_calls _ 0 2 [chkPs ps, eachE ss.length 1000 (stF ps ss)] _ (by simp) (by exact nums2 _ _ _ _)).mono ?_
  rintro e w' ⟨rfl, rfl⟩
  go_wp2_with fail
  refine hK.out _ _ ?_ (fun hHeld => ?_)
  · (exact HS.out _ (by first | assumption | exact hHeld.1 | exact below_step hHeld.1 (by assumption) | exact below_step hHeld.1 (below_alloc _ _)))
  clear hK K
  try simp only [Act.put, List.setIfInBounds_toArray, List.set_cons_zero, List.set_cons_succ]
  refine take_at 8 4 (v := ?_) rfl rfl (by kernel_rfl) (by kernel_rfl) (by kernel_rfl) (fun _ _ _ h => h) (by rfl) ?y8 (by assumption) ?r8
  case y8 =>
    intro w hSw
    try dsimp only at hSw
    go_simp
    try with_reducible rfl
  simp only [List.set_cons_zero, List.set_cons_succ]
  refine wpAnyH_done (by kernel_rfl) ?_ _
  go_wp2_with fail
  go_ret
  exact ⟨rfl, below_step hwW hHeld.1⟩
end Go.Proofs.YtiedmbgdmafhaaaGreatDoor
