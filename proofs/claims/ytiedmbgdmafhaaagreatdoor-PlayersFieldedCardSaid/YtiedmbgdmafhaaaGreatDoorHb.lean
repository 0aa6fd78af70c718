/- compareHealth. stateIn: how a player is in a week. -/
import Derived.Test.YtiedmbgdmafhaaaGreatDoorHa
import Derived.Test.YtiedmbgdmafhaaaGreatDoorChks
import Derived.Test.YtiedmbgdmafhaaaGreatDoorBg
namespace Go.Proofs.YtiedmbgdmafhaaaGreatDoor
open Go.RowKit

/-- How two healths stand. -/
def cmpHd (a b : HD) : Int := firstE [cmpS a.player b.player, Lib.compareInt a.start b.start]
set_option maxRecDepth 100000 in
set_option maxHeartbeats 2000000 in
theorem compareHealth_calls (a b : HD) (w : World) :
    Calls Tryz.prog 117 #[.agg #[.string a.player, .int .i64 a.start, .int .i64 a.stop, .int .i64 a.kind], .agg #[.string b.player, .int .i64 b.start, .int .i64 b.stop, .int .i64 b.kind]] w (IntBelow (cmpHd a b) w) := by
  obtain ⟨W, hW⟩ : ∃ W, W = (w.alloc (.cells #[.string a.player, .int .i64 a.start, .int .i64 a.stop, .int .i64 a.kind] 126)).alloc (.cells #[.string b.player, .int .i64 b.start, .int .i64 b.stop, .int .i64 b.kind] 126) := ⟨_, rfl⟩
  have hwW : Below w.heap.size w W := by rw [hW]; exact below2 w _ _
  have x0 : W.cell? ⟨w.heap.size, 0, none⟩ = some (.string a.player) := by rw [hW, World.cell?_alloc_past _ _ _ (by simp), World.cell?_alloc_at _ _ _ _ rfl]; rfl
  have x1 : W.cell? ⟨w.heap.size, 1, none⟩ = some (.int .i64 a.start) := by rw [hW, World.cell?_alloc_past _ _ _ (by simp), World.cell?_alloc_at _ _ _ _ rfl]; rfl
  have y0 : W.cell? ⟨w.heap.size + 1, 0, none⟩ = some (.string b.player) := by rw [hW, World.cell?_alloc_at _ _ _ _ (by simp)]; rfl
  have y1 : W.cell? ⟨w.heap.size + 1, 1, none⟩ = some (.int .i64 b.start) := by rw [hW, World.cell?_alloc_at _ _ _ _ (by simp)]; rfl
  have HS := Lib.hid (show ∀ w', Below W.heap.size W w' → (Below W.heap.size W w' ∧ w'.cell? ⟨w.heap.size, 0, none⟩ = some (.string a.player) ∧ w'.cell? ⟨w.heap.size, 1, none⟩ = some (.int .i64 a.start) ∧ w'.cell? ⟨w.heap.size + 1, 0, none⟩ = some (.string b.player) ∧ w'.cell? ⟨w.heap.size + 1, 1, none⟩ = some (.int .i64 b.start)) from fun w' hb => ⟨hb, below_cell hb x0, below_cell hb x1, below_cell hb y0, below_cell hb y1⟩)
  have hb0 := (Below.refl W.heap.size W).drew
  clear x0 x1 y0 y1
  go_enter Tryz.func117, Tryz.ntmps117
  go_upto_region 1 with fail
  rw [← hW]
  clear hW
  refine wp_region_held_drew (S := fun w' => Below W.heap.size W w' ∧ w'.cell? ⟨w.heap.size, 0, none⟩ = some (.string a.player) ∧ w'.cell? ⟨w.heap.size, 1, none⟩ = some (.int .i64 a.start) ∧ w'.cell? ⟨w.heap.size + 1, 0, none⟩ = some (.string b.player) ∧ w'.cell? ⟨w.heap.size + 1, 1, none⟩ = some (.int .i64 b.start)) (by kernel_rfl) ?_ (fun hHeld => ?_)
  · (exact HS.out _ (by first | assumption | exact hHeld.1 | exact below_step hHeld.1 (by assumption) | exact below_step hHeld.1 (below_alloc _ _)))
  refine take_at 0 5 (v := ?_) rfl rfl (by kernel_rfl) (by kernel_rfl) (by kernel_rfl) (fun _ _ _ h => h) (by rfl) ?y0 (by assumption) ?r0
  case y0 =>
    intro w hSw
    try dsimp only at hSw
    go_simp
    try with_reducible rfl
  simp only [List.set_cons_zero, List.set_cons_succ]
  refine take_at 1 6 (v := ?_) rfl rfl (by kernel_rfl) (by kernel_rfl) (by kernel_rfl) (fun _ _ _ h => h) (by rfl) ?y1 (by assumption) ?r1
  case y1 =>
    intro w hSw
    try dsimp only at hSw
    go_simp
    try with_reducible rfl
  simp only [List.set_cons_zero, List.set_cons_succ]
  refine take_at 2 7 (v := ?_) rfl rfl (by kernel_rfl) (by kernel_rfl) (by kernel_rfl) (fun _ _ _ h => h) (by rfl) ?y2 (by assumption) ?r2
  case y2 =>
    intro w hSw
    try dsimp only at hSw
    go_simp
    try with_reducible rfl
  simp only [List.set_cons_zero, List.set_cons_succ]
  refine take_at 3 8 (v := ?_) rfl rfl (by kernel_rfl) (by kernel_rfl) (by kernel_rfl) (fun _ _ _ h => h) (by rfl) ?y3 (by assumption) ?r3
  case y3 =>
    intro w hSw
    try dsimp only at hSw
    go_simp
    try with_reducible rfl
  simp only [List.set_cons_zero, List.set_cons_succ]
  refine take_at 5 10 (v := ?_) rfl rfl (by kernel_rfl) (by kernel_rfl) (by kernel_rfl) (fun _ _ _ h => h) (by rfl) ?y5 (by assumption) ?r5
  case y5 =>
    intro w hSw
    try dsimp only at hSw
    go_simp
    try with_reducible rfl
  simp only [List.set_cons_zero, List.set_cons_succ]
  refine take_at 6 11 (v := ?_) rfl rfl (by kernel_rfl) (by kernel_rfl) (by kernel_rfl) (fun _ _ _ h => h) (by rfl) ?y6 (by assumption) ?r6
  case y6 =>
    intro w hSw
    try dsimp only at hSw
    go_simp
    try with_reducible rfl
  simp only [List.set_cons_zero, List.set_cons_succ]
  refine take_at 7 12 (v := ?_) rfl rfl (by kernel_rfl) (by kernel_rfl) (by kernel_rfl) (fun _ _ _ h => h) (by rfl) ?y7 (by assumption) ?r7
  case y7 =>
    intro w hSw
    try dsimp only at hSw
    go_simp
    try with_reducible rfl
  simp only [List.set_cons_zero, List.set_cons_succ]
  refine take_at 8 13 (v := ?_) rfl rfl (by kernel_rfl) (by kernel_rfl) (by kernel_rfl) (fun _ _ _ h => h) (by rfl) ?y8 (by assumption) ?r8
  case y8 =>
    intro w hSw
    try dsimp only at hSw
    go_simp
    try with_reducible rfl
  simp only [List.set_cons_zero, List.set_cons_succ]
  refine run_at 4 rfl (by kernel_rfl) (by rfl) (fun K hK => ?_)
  go_simp
  refine (strCompare_calls _ _ _).mono ?_
  rintro e w' ⟨rfl, rfl⟩
  rw [cmpS_eq]
  go_wp2_with fail
  refine hK.out _ _ ?_ (fun hHeld => ?_)
  · (exact HS.out _ (by first | assumption | exact hHeld.1 | exact below_step hHeld.1 (by assumption) | exact below_step hHeld.1 (below_alloc _ _)))
  clear hK K
  try simp only [Act.put, List.setIfInBounds_toArray, List.set_cons_zero, List.set_cons_succ]
  refine run_at 9 rfl (by kernel_rfl) (by rfl) (fun K hK => ?_)
  go_simp
  refine (Tryz.cmp_Compare_int _ _ _).mono ?_
  rintro e w' ⟨rfl, h⟩
  subst h
  go_wp2_with fail
  refine hK.out _ _ ?_ (fun hHeld => ?_)
  · (exact HS.out _ (by first | assumption | exact hHeld.1 | exact below_step hHeld.1 (by assumption) | exact below_step hHeld.1 (below_alloc _ _)))
  clear hK K
  try simp only [Act.put, List.setIfInBounds_toArray, List.set_cons_zero, List.set_cons_succ]
  refine run_at 10 rfl (by kernel_rfl) (by rfl) (fun K hK => ?_)
  go_simp
  refine hK.out _ _ ?_ (fun hHeld => ?_)
  · (exact HS.out _ (by first | assumption | exact hHeld.1 | exact below_step hHeld.1 (by assumption) | exact below_step hHeld.1 (below_alloc _ _)))
  clear hK K
  try simp only [Act.put, List.setIfInBounds_toArray, List.set_cons_zero, List.set_cons_succ]
  refine run_at 11 rfl (by kernel_rfl) (by rfl) (fun K hK => ?_)
  go_simp
  refine (orI_calls _ 0 2 [cmpS a.player b.player, Lib.compareInt a.start b.start] _ (by simp) (by exact nums2 _ _ _ _)).mono ?_
  rintro e w' ⟨rfl, rfl⟩
  go_wp2_with fail
  refine hK.out _ _ ?_ (fun hHeld => ?_)
  · (exact HS.out _ (by first | assumption | exact hHeld.1 | exact below_step hHeld.1 (by assumption) | exact below_step hHeld.1 (below_alloc _ _)))
  clear hK K
  try simp only [Act.put, List.setIfInBounds_toArray, List.set_cons_zero, List.set_cons_succ]
  refine take_at 12 4 (v := ?_) rfl rfl (by kernel_rfl) (by kernel_rfl) (by kernel_rfl) (fun _ _ _ h => h) (by rfl) ?y12 (by assumption) ?r12
  case y12 =>
    intro w hSw
    try dsimp only at hSw
    go_simp
    try with_reducible rfl
  simp only [List.set_cons_zero, List.set_cons_succ]
  refine wpAnyH_done (by kernel_rfl) ?_ _
  go_wp2_with fail
  go_ret
  exact ⟨rfl, below_step hwW hHeld.1⟩
end Go.Proofs.YtiedmbgdmafhaaaGreatDoor
namespace Go.Proofs.YtiedmbgdmafhaaaGreatDoor
open Go.RowKit

/-- Health i of some. -/
def hdAt (ss : List HD) (i : Nat) : HD := ss[i]?.getD ⟨ByteArray.empty, 0, 0, 0⟩
theorem hdAt_some {ss : List HD} {i : Nat} {s : HD} (h : ss[i]? = some s) : hdAt ss i = s := by simp [hdAt, h]
theorem hds_shape {w : World} {lo : Nat} {v : Value} {ss : List HD} (h : Hds w lo v ss) : ∃ a c, v = .slice a ss.length c := by
  rcases hds_at h with ⟨rfl, rfl⟩ | ⟨g, off, cap, rfl, _⟩
  · exact ⟨none, 0, rfl⟩
  · exact ⟨_, _, rfl⟩
theorem Hds.below {w w' : World} {lo : Nat} {v : Value} {ss : List HD} (h : Hds w lo v ss) (hb : Below w.heap.size w w') : Hds w' lo v ss := Rows.below h hb
set_option maxRecDepth 100000 in
set_option maxHeartbeats 1000000 in
theorem stateIn1_calls (cl ca g off cap i : Nat) (ss : List HD) (s asked : HD) (W : World) (hi : ss[i]? = some s)
    (h1 : W.cell? ⟨cl, 0, none⟩ = some (.slice (some ⟨g, off, none⟩) ss.length cap)) (a0 : W.cell? ⟨ca, 0, none⟩ = some (.string asked.player)) (a1 : W.cell? ⟨ca, 1, none⟩ = some (.int .i64 asked.start)) (a2 : W.cell? ⟨ca, 2, none⟩ = some (.int .i64 asked.stop)) (a3 : W.cell? ⟨ca, 3, none⟩ = some (.int .i64 asked.kind))
    (q0 : W.cell? ⟨g, off + i * 4, none⟩ = some (.string s.player)) (q1 : W.cell? ⟨g, off + i * 4 + 1, none⟩ = some (.int .i64 s.start)) (q2 : W.cell? ⟨g, off + i * 4 + 2, none⟩ = some (.int .i64 s.stop)) (q3 : W.cell? ⟨g, off + i * 4 + 3, none⟩ = some (.int .i64 s.kind)) :
    Calls Tryz.prog 199 #[.int .i64 (i : Int), .pointer (some ⟨cl, 0, none⟩), .pointer (some ⟨ca, 0, none⟩)] W (BoolIs (decide (0 < cmpHd s asked)) W) := by
  have hlt : i < ss.length := (List.getElem?_eq_some_iff.1 hi).1
  have HS := Lib.hid (show ∀ w', Below W.heap.size W w' → (Below W.heap.size W w' ∧ w'.cell? ⟨cl, 0, none⟩ = some (.slice (some ⟨g, off, none⟩) ss.length cap) ∧ w'.cell? ⟨ca, 0, none⟩ = some (.string asked.player) ∧ w'.cell? ⟨ca, 1, none⟩ = some (.int .i64 asked.start) ∧ w'.cell? ⟨ca, 2, none⟩ = some (.int .i64 asked.stop) ∧ w'.cell? ⟨ca, 3, none⟩ = some (.int .i64 asked.kind) ∧ w'.cell? ⟨g, off + i * 4, none⟩ = some (.string s.player) ∧ w'.cell? ⟨g, off + i * 4 + 1, none⟩ = some (.int .i64 s.start) ∧ w'.cell? ⟨g, off + i * 4 + 2, none⟩ = some (.int .i64 s.stop) ∧ w'.cell? ⟨g, off + i * 4 + 3, none⟩ = some (.int .i64 s.kind)) from fun w' hb => ⟨hb, below_cell hb h1, below_cell hb a0, below_cell hb a1, below_cell hb a2, below_cell hb a3, below_cell hb q0, below_cell hb q1, below_cell hb q2, below_cell hb q3⟩)
  have hb0 := (Below.refl W.heap.size W).drew
  clear h1 a0 a1 a2 a3 q0 q1 q2 q3 hi
  go_enter Tryz.func199, Tryz.ntmps199
  go_wp2_with fail
  refine wp_region_held_drew (S := fun w' => Below W.heap.size W w' ∧ w'.cell? ⟨cl, 0, none⟩ = some (.slice (some ⟨g, off, none⟩) ss.length cap) ∧ w'.cell? ⟨ca, 0, none⟩ = some (.string asked.player) ∧ w'.cell? ⟨ca, 1, none⟩ = some (.int .i64 asked.start) ∧ w'.cell? ⟨ca, 2, none⟩ = some (.int .i64 asked.stop) ∧ w'.cell? ⟨ca, 3, none⟩ = some (.int .i64 asked.kind) ∧ w'.cell? ⟨g, off + i * 4, none⟩ = some (.string s.player) ∧ w'.cell? ⟨g, off + i * 4 + 1, none⟩ = some (.int .i64 s.start) ∧ w'.cell? ⟨g, off + i * 4 + 2, none⟩ = some (.int .i64 s.stop) ∧ w'.cell? ⟨g, off + i * 4 + 3, none⟩ = some (.int .i64 s.kind)) (by kernel_rfl) ?_ (fun hHeld => ?_)
  · (exact HS.out _ (by first | assumption | exact hHeld.1 | exact below_step hHeld.1 (by assumption) | exact below_step hHeld.1 (below_alloc _ _)))
  refine take_at 0 5 (v := ?_) rfl rfl (by kernel_rfl) (by kernel_rfl) (by kernel_rfl) (fun _ _ _ h => h) (by rfl) ?y0 (by assumption) ?r0
  case y0 =>
    intro w hSw
    try dsimp only at hSw
    go_simp
    try with_reducible rfl
  simp only [List.set_cons_zero, List.set_cons_succ]
  refine take_at 1 6 (v := ?_) rfl rfl (by kernel_rfl) (by kernel_rfl) (by kernel_rfl) (fun _ _ _ h => h) (by rfl) ?y1 (by assumption) ?r1
  case y1 =>
    intro w hSw
    try dsimp only at hSw
    go_simp
    try with_reducible rfl
  simp only [List.set_cons_zero, List.set_cons_succ]
  refine take_at 2 7 (v := ?_) rfl rfl (by kernel_rfl) (by kernel_rfl) (by kernel_rfl) (fun _ _ _ h => h) (by rfl) ?y2 (by assumption) ?r2
  case y2 =>
    intro w hSw
    try dsimp only at hSw
    go_simp
    try with_reducible rfl
  simp only [List.set_cons_zero, List.set_cons_succ]
  refine take_at 3 8 (v := ?_) rfl rfl (by kernel_rfl) (by kernel_rfl) (by kernel_rfl) (fun _ _ _ h => h) (by rfl) ?y3 (by assumption) ?r3
  case y3 =>
    intro w hSw
    try dsimp only at hSw
    go_simp
    try with_reducible rfl
  simp only [List.set_cons_zero, List.set_cons_succ]
  refine take_at 4 9 (v := ?_) rfl rfl (by kernel_rfl) (by kernel_rfl) (by kernel_rfl) (fun _ _ _ h => h) (by rfl) ?y4 (by assumption) ?r4
  case y4 =>
    intro w hSw
    try dsimp only at hSw
    go_simp
    try with_reducible rfl
  simp only [List.set_cons_zero, List.set_cons_succ]
  refine run_at 5 rfl (by kernel_rfl) (by rfl) (fun K hK => ?_)
  go_simp
  refine (compareHealth_calls s asked _).mono ?_
  rintro e w' ⟨rfl, hb⟩
  go_wp2_with fail
  refine hK.out _ _ ?_ (fun hHeld => ?_)
  · (exact HS.out _ (by first | assumption | exact hHeld.1 | exact below_step hHeld.1 (by assumption) | exact below_step hHeld.1 (below_alloc _ _)))
  clear hK K
  try simp only [Act.put, List.setIfInBounds_toArray, List.set_cons_zero, List.set_cons_succ]
  refine take_at 6 11 (v := ?_) rfl rfl (by kernel_rfl) (by kernel_rfl) (by kernel_rfl) (fun _ _ _ h => h) (by rfl) ?y6 (by assumption) ?r6
  case y6 =>
    intro w hSw
    try dsimp only at hSw
    go_simp
    try with_reducible rfl
  simp only [List.set_cons_zero, List.set_cons_succ]
  refine take_at 7 4 (v := ?_) rfl rfl (by kernel_rfl) (by kernel_rfl) (by kernel_rfl) (fun _ _ _ h => h) (by rfl) ?y7 (by assumption) ?r7
  case y7 =>
    intro w hSw
    try dsimp only at hSw
    go_simp
    try with_reducible rfl
  simp only [List.set_cons_zero, List.set_cons_succ]
  refine wpAnyH_done (by kernel_rfl) ?_ _
  go_wp2_with fail
  go_ret
  exact ⟨rfl, hHeld.1⟩

/-- How a player is in a week, as the search finds it. -/
def askH (who : ByteArray) (week : Int) : HD := ⟨who, week, 0, 0⟩
def stateK (ss : List HD) (who : ByteArray) (week : Int) : Nat := srI (fun i => decide (0 < cmpHd (hdAt ss i) (askH who week))) ss.length
def stateB (ss : List HD) (who : ByteArray) (week : Int) : Int :=
  if stateK ss who week = 0 then 0 else if beqS (hdAt ss (stateK ss who week - 1)).player who then (if (hdAt ss (stateK ss who week - 1)).stop ≤ week then 0 else (hdAt ss (stateK ss who week - 1)).kind) else 0

set_option maxRecDepth 100000 in
set_option maxHeartbeats 2000000 in
theorem stateIn_calls (lo : Nat) (who : ByteArray) (week : Int) (v : Value) (ss : List HD) (w : World) (hS : Hds w lo v ss) (hn : ss.length ≤ 1000000) :
    Calls Tryz.prog 111 #[v, .string who, .int .i64 week] w fun e w' => e = .returned (.int .i64 (stateB ss who week)) ∧ Below w.heap.size w w' := by
  obtain ⟨sa, sc, rfl⟩ := hds_shape hS
  obtain ⟨W, hW⟩ : ∃ W, W = (w.alloc (.cells #[.slice sa ss.length sc] 49)).alloc (.cells #[.string who, .int .i64 week, .int .i64 0, .int .i64 0] 126) := ⟨_, rfl⟩
  have hwW : Below w.heap.size w W := by rw [hW]; exact below2 w _ _
  have x0 : W.cell? ⟨w.heap.size, 0, none⟩ = some (.slice sa ss.length sc) := by rw [hW, World.cell?_alloc_past _ _ _ (by simp), World.cell?_alloc_at _ _ _ _ rfl]; rfl
  have a0 : W.cell? ⟨w.heap.size + 1, 0, none⟩ = some (.string who) := by rw [hW, World.cell?_alloc_at _ _ _ _ (by simp)]; rfl
  have a1 : W.cell? ⟨w.heap.size + 1, 1, none⟩ = some (.int .i64 week) := by rw [hW, World.cell?_alloc_at _ _ _ _ (by simp)]; rfl
  have a2 : W.cell? ⟨w.heap.size + 1, 2, none⟩ = some (.int .i64 0) := by rw [hW, World.cell?_alloc_at _ _ _ _ (by simp)]; rfl
  have a3 : W.cell? ⟨w.heap.size + 1, 3, none⟩ = some (.int .i64 0) := by rw [hW, World.cell?_alloc_at _ _ _ _ (by simp)]; rfl
  have hSW := hS.below hwW
  have hf : ∀ (X : World) (i : Nat), i < ss.length → Below W.heap.size W X → Calls Tryz.prog 199 (#[.int .i64 (i : Int)] ++ #[.pointer (some ⟨w.heap.size, 0, none⟩), .pointer (some ⟨w.heap.size + 1, 0, none⟩)]) X (BoolIs (decide (0 < cmpHd (hdAt ss i) (askH who week))) X) := by
    intro X i hi hb
    obtain ⟨s, hsi⟩ : ∃ s, ss[i]? = some s := ⟨ss[i], List.getElem?_eq_getElem hi⟩
    rw [hdAt_some hsi]
    have y0 := below_cell hb x0
    rcases hds_at (hSW.below hb) with ⟨_, rfl⟩ | ⟨g, off, cap, e, _, _, _, hc⟩
    · simp at hi
    · rw [e] at y0
      obtain ⟨q0, q1, q2, q3⟩ := hc i s hsi
      exact stateIn1_calls w.heap.size (w.heap.size + 1) g off cap i ss s (askH who week) X hsi y0 (below_cell hb a0) (below_cell hb a1) (below_cell hb a2) (below_cell hb a3) q0 q1 q2 q3
  have Hf := Lib.hid hf
  clear hf hS a0 a1 a2 a3
  have hmono : stateK ss who week ≤ ss.length := srI_le _ _
  have Hb := Lib.hid (show stateB ss who week = if stateK ss who week = 0 then 0 else if beqS (hdAt ss (stateK ss who week - 1)).player who then (if (hdAt ss (stateK ss who week - 1)).stop ≤ week then 0 else (hdAt ss (stateK ss who week - 1)).kind) else 0 from rfl)
  have cS := search_calls 199 #[.pointer (some ⟨w.heap.size, 0, none⟩), .pointer (some ⟨w.heap.size + 1, 0, none⟩)] (enters_of Tryz.func199 (by kernel_rfl) rfl) (fun i => decide (0 < cmpHd (hdAt ss i) (askH who week))) ss.length W hn Hf.out
  have cS' : Calls Tryz.prog 179 #[.int .i64 (ss.length : Int), .func (.func 199) #[] #[.pointer (some ⟨w.heap.size, 0, none⟩), .pointer (some ⟨w.heap.size + 1, 0, none⟩)]] W (IntBelow (stateK ss who week : Int) W) := cS
  generalize stateK ss who week = k at cS' hmono Hb
  have CS := Lib.hid cS'
  clear cS cS' Hf
  go_enter Tryz.func111, Tryz.ntmps111
  go_upto_region 2 with fail
  rw [← hW]
  clear hW
  go_wp2_with fail
  refine CS.out.mono ?_
  rintro e w' ⟨rfl, hb⟩
  have y0 := below_cell hb x0
  have hS2 := hSW.below hb
  clear x0 hSW
  by_cases hk : k = 0
  · subst hk
    go_wp2_with fail
    go_ret
    exact ⟨by rw [Hb.out]; rfl, below_step hwW hb⟩
  · have e0 : ((k : Int) == 0) = false := by rw [beq_eq_false_iff_ne]; omega
    obtain ⟨s, hsi⟩ : ∃ s, ss[k - 1]? = some s := ⟨_, List.getElem?_eq_getElem (show k - 1 < ss.length by omega)⟩
    have Hb2 := Lib.hid (show stateB ss who week = if beqS s.player who then (if s.stop ≤ week then 0 else s.kind) else 0 by rw [Hb.out, if_neg hk, hdAt_some hsi])
    rcases hds_at hS2 with ⟨_, rfl⟩ | ⟨g, off, cap, e, _, _, _, hc⟩
    · simp at hmono; omega
    · obtain ⟨q0, q1, q2, q3⟩ := hc (k - 1) s hsi
      rw [e] at y0
      have k1 : 1 ≤ k := by omega
      have w1 : (k : Int) - 1 = ((k - 1 : Nat) : Int) := by omega
      have w2 : ((k - 1 : Nat) : Int) < (ss.length : Int) := by omega
      clear hS2 hc hsi hk
      cases hq : beqS s.player who
      · have e1 : (s.player.toList == who.toList) = false := hq
        have e2 : (!(s.player.toList == who.toList)) = true := by rw [e1]; rfl
        go_wp2_with fail
        go_ret
        exact ⟨by rw [Hb2.out, hq]; rfl, below_step hwW hb⟩
      · have e1 : (s.player.toList == who.toList) = true := hq
        have e2 : (!(s.player.toList == who.toList)) = false := by rw [e1]; rfl
        by_cases hst : s.stop ≤ week
        · have Hst := Lib.hid hst
          go_wp2_with fail
          go_ret
          exact ⟨by rw [Hb2.out, hq, if_pos rfl, if_pos Hst.out]; rfl, below_step hwW hb⟩
        · have hst' : decide (s.stop ≤ week) = false := decide_eq_false hst
          have hst2 : week < s.stop := by omega
          go_wp2_with fail
          all_goals go_ret
          exact ⟨by rw [Hb2.out, hq, if_pos rfl, if_neg (by omega)]; rfl, below_step hwW hb⟩
end Go.Proofs.YtiedmbgdmafhaaaGreatDoor
