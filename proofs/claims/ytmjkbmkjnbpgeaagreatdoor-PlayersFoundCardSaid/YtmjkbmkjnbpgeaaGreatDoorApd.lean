/- compareAppears and CheckAppears. -/
import Derived.Test.YtmjkbmkjnbpgeaaGreatDoorPa
import Derived.Test.YtmjkbmkjnbpgeaaGreatDoorBg
import Derived.Test.YtmjkbmkjnbpgeaaGreatDoorBh
namespace Go.Proofs.YtmjkbmkjnbpgeaaGreatDoor
open Go.RowKit

def cmpAp (a b : SD) : Int := firstE [cmpS a.player b.player, cmpS a.club b.club, Lib.compareInt a.week b.week]
theorem aps_shape {w : World} {lo : Nat} {v : Value} {ss : List SD} (h : Aps w lo v ss) : ∃ a c, v = .slice a ss.length c := by
  rcases aps_at h with ⟨rfl, rfl⟩ | ⟨g, off, cap, rfl, _⟩
  · exact ⟨none, 0, rfl⟩
  · exact ⟨_, _, rfl⟩
theorem Aps.below {w w' : World} {lo : Nat} {v : Value} {ss : List SD} (h : Aps w lo v ss) (hb : Below w.heap.size w w') : Aps w' lo v ss := Rows.below h hb
set_option maxRecDepth 100000 in
set_option maxHeartbeats 2000000 in
theorem compareAppears_calls (a b : SD) (w : World) :
    Calls Tryz.prog 125 #[.agg #[.string a.player, .string a.club, .int .i64 a.week], .agg #[.string b.player, .string b.club, .int .i64 b.week]] w (IntBelow (cmpAp a b) w) := by
  obtain ⟨W, hW⟩ : ∃ W, W = (w.alloc (.cells #[.string a.player, .string a.club, .int .i64 a.week] 132)).alloc (.cells #[.string b.player, .string b.club, .int .i64 b.week] 132) := ⟨_, rfl⟩
  have hwW : Below w.heap.size w W := by rw [hW]; exact below2 w _ _
  have x0 : W.cell? ⟨w.heap.size, 0, none⟩ = some (.string a.player) := by rw [hW, World.cell?_alloc_past _ _ _ (by simp), World.cell?_alloc_at _ _ _ _ rfl]; rfl
  have x1 : W.cell? ⟨w.heap.size, 1, none⟩ = some (.string a.club) := by rw [hW, World.cell?_alloc_past _ _ _ (by simp), World.cell?_alloc_at _ _ _ _ rfl]; rfl
  have x2 : W.cell? ⟨w.heap.size, 2, none⟩ = some (.int .i64 a.week) := by rw [hW, World.cell?_alloc_past _ _ _ (by simp), World.cell?_alloc_at _ _ _ _ rfl]; rfl
  have y0 : W.cell? ⟨w.heap.size + 1, 0, none⟩ = some (.string b.player) := by rw [hW, World.cell?_alloc_at _ _ _ _ (by simp)]; rfl
  have y1 : W.cell? ⟨w.heap.size + 1, 1, none⟩ = some (.string b.club) := by rw [hW, World.cell?_alloc_at _ _ _ _ (by simp)]; rfl
  have y2 : W.cell? ⟨w.heap.size + 1, 2, none⟩ = some (.int .i64 b.week) := by rw [hW, World.cell?_alloc_at _ _ _ _ (by simp)]; rfl
  have HS := Lib.hid (show ∀ w', Below W.heap.size W w' → (Below W.heap.size W w' ∧ w'.cell? ⟨w.heap.size, 0, none⟩ = some (.string a.player) ∧ w'.cell? ⟨w.heap.size, 1, none⟩ = some (.string a.club) ∧ w'.cell? ⟨w.heap.size, 2, none⟩ = some (.int .i64 a.week) ∧ w'.cell? ⟨w.heap.size + 1, 0, none⟩ = some (.string b.player) ∧ w'.cell? ⟨w.heap.size + 1, 1, none⟩ = some (.string b.club) ∧ w'.cell? ⟨w.heap.size + 1, 2, none⟩ = some (.int .i64 b.week)) from fun w' hb => ⟨hb, below_cell hb x0, below_cell hb x1, below_cell hb x2, below_cell hb y0, below_cell hb y1, below_cell hb y2⟩)
  have hb0 := (Below.refl W.heap.size W).drew
  clear x0 x1 x2 y0 y1 y2
  go_enter Tryz.func125, Tryz.ntmps125
  go_upto_region 1 with fail
  rw [← hW]
  clear hW
  refine wp_region_held_drew (S := fun w' => Below W.heap.size W w' ∧ w'.cell? ⟨w.heap.size, 0, none⟩ = some (.string a.player) ∧ w'.cell? ⟨w.heap.size, 1, none⟩ = some (.string a.club) ∧ w'.cell? ⟨w.heap.size, 2, none⟩ = some (.int .i64 a.week) ∧ w'.cell? ⟨w.heap.size + 1, 0, none⟩ = some (.string b.player) ∧ w'.cell? ⟨w.heap.size + 1, 1, none⟩ = some (.string b.club) ∧ w'.cell? ⟨w.heap.size + 1, 2, none⟩ = some (.int .i64 b.week)) (by kernel_rfl) ?_ (fun hHeld => ?_)
  · (exact HS.out _ (by first | assumption | exact hHeld.1 | exact below_step hHeld.1 (by assumption) | exact below_step hHeld.1 (below_alloc _ _)))
  refine take_at 0 5 (v := ?_) rfl rfl (by kernel_rfl) (by kernel_rfl) (by kernel_rfl) (fun _ _ _ h => h) (by rfl) ?y0 (by assumption) ?r0
  case y0 =>
    intro w hSw
    try dsimp only at hSw
    go_simp
    try with_reducible rfl
  simp only [List.set_cons_zero, List.set_cons_succ]
  refine take_at 1 6 (v := ?_) rfl rfl (by kernel_rfl) (by kernel_rfl) (by kernel_rfl) (fun _ _ _ h => h) (by rfl) ?y1 (by assumption) ?r1
  case y1 =>
    intro w hSw
    try dsimp only at hSw
    go_simp
    try with_reducible rfl
  simp only [List.set_cons_zero, List.set_cons_succ]
  refine take_at 2 7 (v := ?_) rfl rfl (by kernel_rfl) (by kernel_rfl) (by kernel_rfl) (fun _ _ _ h => h) (by rfl) ?y2 (by assumption) ?r2
  case y2 =>
    intro w hSw
    try dsimp only at hSw
    go_simp
    try with_reducible rfl
  simp only [List.set_cons_zero, List.set_cons_succ]
  refine take_at 3 8 (v := ?_) rfl rfl (by kernel_rfl) (by kernel_rfl) (by kernel_rfl) (fun _ _ _ h => h) (by rfl) ?y3 (by assumption) ?r3
  case y3 =>
    intro w hSw
    try dsimp only at hSw
    go_simp
    try with_reducible rfl
  simp only [List.set_cons_zero, List.set_cons_succ]
  refine take_at 5 10 (v := ?_) rfl rfl (by kernel_rfl) (by kernel_rfl) (by kernel_rfl) (fun _ _ _ h => h) (by rfl) ?y5 (by assumption) ?r5
  case y5 =>
    intro w hSw
    try dsimp only at hSw
    go_simp
    try with_reducible rfl
  simp only [List.set_cons_zero, List.set_cons_succ]
  refine take_at 6 11 (v := ?_) rfl rfl (by kernel_rfl) (by kernel_rfl) (by kernel_rfl) (fun _ _ _ h => h) (by rfl) ?y6 (by assumption) ?r6
  case y6 =>
    intro w hSw
    try dsimp only at hSw
    go_simp
    try with_reducible rfl
  simp only [List.set_cons_zero, List.set_cons_succ]
  refine take_at 7 12 (v := ?_) rfl rfl (by kernel_rfl) (by kernel_rfl) (by kernel_rfl) (fun _ _ _ h => h) (by rfl) ?y7 (by assumption) ?r7
  case y7 =>
    intro w hSw
    try dsimp only at hSw
    go_simp
    try with_reducible rfl
  simp only [List.set_cons_zero, List.set_cons_succ]
  refine take_at 8 13 (v := ?_) rfl rfl (by kernel_rfl) (by kernel_rfl) (by kernel_rfl) (fun _ _ _ h => h) (by rfl) ?y8 (by assumption) ?r8
  case y8 =>
    intro w hSw
    try dsimp only at hSw
    go_simp
    try with_reducible rfl
  simp only [List.set_cons_zero, List.set_cons_succ]
  refine take_at 10 15 (v := ?_) rfl rfl (by kernel_rfl) (by kernel_rfl) (by kernel_rfl) (fun _ _ _ h => h) (by rfl) ?y10 (by assumption) ?r10
  case y10 =>
    intro w hSw
    try dsimp only at hSw
    go_simp
    try with_reducible rfl
  simp only [List.set_cons_zero, List.set_cons_succ]
  refine take_at 11 16 (v := ?_) rfl rfl (by kernel_rfl) (by kernel_rfl) (by kernel_rfl) (fun _ _ _ h => h) (by rfl) ?y11 (by assumption) ?r11
  case y11 =>
    intro w hSw
    try dsimp only at hSw
    go_simp
    try with_reducible rfl
  simp only [List.set_cons_zero, List.set_cons_succ]
  refine take_at 12 17 (v := ?_) rfl rfl (by kernel_rfl) (by kernel_rfl) (by kernel_rfl) (fun _ _ _ h => h) (by rfl) ?y12 (by assumption) ?r12
  case y12 =>
    intro w hSw
    try dsimp only at hSw
    go_simp
    try with_reducible rfl
  simp only [List.set_cons_zero, List.set_cons_succ]
  refine take_at 13 18 (v := ?_) rfl rfl (by kernel_rfl) (by kernel_rfl) (by kernel_rfl) (fun _ _ _ h => h) (by rfl) ?y13 (by assumption) ?r13
  case y13 =>
    intro w hSw
    try dsimp only at hSw
    go_simp
    try with_reducible rfl
  simp only [List.set_cons_zero, List.set_cons_succ]
  refine run_at 4 rfl (by kernel_rfl) (by rfl) (fun K hK => ?_)
  go_simp
  refine (strCompare_calls _ _ _).mono ?_
  rintro e w' ⟨rfl, rfl⟩
  rw [cmpS_eq]
  go_wp2_with fail
  refine hK.out _ _ ?_ (fun hHeld => ?_)
  · (exact HS.out _ (by first | assumption | exact hHeld.1 | exact below_step hHeld.1 (by assumption) | exact below_step hHeld.1 (below_alloc _ _)))
  clear hK K
  try simp only [Act.put, List.setIfInBounds_toArray, List.set_cons_zero, List.set_cons_succ]
  refine run_at 9 rfl (by kernel_rfl) (by rfl) (fun K hK => ?_)
  go_simp
  refine (strCompare_calls _ _ _).mono ?_
  rintro e w' ⟨rfl, rfl⟩
  rw [cmpS_eq]
  go_wp2_with fail
  refine hK.out _ _ ?_ (fun hHeld => ?_)
  · (exact HS.out _ (by first | assumption | exact hHeld.1 | exact below_step hHeld.1 (by assumption) | exact below_step hHeld.1 (below_alloc _ _)))
  clear hK K
  try simp only [Act.put, List.setIfInBounds_toArray, List.set_cons_zero, List.set_cons_succ]
  refine run_at 14 rfl (by kernel_rfl) (by rfl) (fun K hK => ?_)
  go_simp
  refine (Tryz.cmp_Compare_int _ _ _).mono ?_
  rintro e w' ⟨rfl, h⟩
  subst h
  go_wp2_with fail
  refine hK.out _ _ ?_ (fun hHeld => ?_)
  · (exact HS.out _ (by first | assumption | exact hHeld.1 | exact below_step hHeld.1 (by assumption) | exact below_step hHeld.1 (below_alloc _ _)))
  clear hK K
  try simp only [Act.put, List.setIfInBounds_toArray, List.set_cons_zero, List.set_cons_succ]
  refine run_at 15 rfl (by kernel_rfl) (by rfl) (fun K hK => ?_)
  go_simp
  refine hK.out _ _ ?_ (fun hHeld => ?_)
  · (exact HS.out _ (by first | assumption | exact hHeld.1 | exact below_step hHeld.1 (by assumption) | exact below_step hHeld.1 (below_alloc _ _)))
  clear hK K
  try simp only [Act.put, List.setIfInBounds_toArray, List.set_cons_zero, List.set_cons_succ]
  refine run_at 16 rfl (by kernel_rfl) (by rfl) (fun K hK => ?_)
  go_simp
  refine (orI_calls _ 0 3 [cmpS a.player b.player, cmpS a.club b.club, Lib.compareInt a.week b.week] _ (by simp) (by exact nums3 _ _ _ _ _)).mono ?_
  rintro e w' ⟨rfl, rfl⟩
  go_wp2_with fail
  refine hK.out _ _ ?_ (fun hHeld => ?_)
  · (exact HS.out _ (by first | assumption | exact hHeld.1 | exact below_step hHeld.1 (by assumption) | exact below_step hHeld.1 (below_alloc _ _)))
  clear hK K
  try simp only [Act.put, List.setIfInBounds_toArray, List.set_cons_zero, List.set_cons_succ]
  refine take_at 17 4 (v := ?_) rfl rfl (by kernel_rfl) (by kernel_rfl) (by kernel_rfl) (fun _ _ _ h => h) (by rfl) ?y17 (by assumption) ?r17
  case y17 =>
    intro w hSw
    try dsimp only at hSw
    go_simp
    try with_reducible rfl
  simp only [List.set_cons_zero, List.set_cons_succ]
  refine wpAnyH_done (by kernel_rfl) ?_ _
  go_wp2_with fail
  go_ret
  exact ⟨rfl, below_step hwW hHeld.1⟩

/-- What is wrong with appearance i. -/
def apF (ps : List PD) (ss : List SD) (i : Nat) : Int :=
  firstE [unlessE (knownB ps (stAt ss i).player) 8, unlessE (keyB (stAt ss i).club) 5, unlessE (betwB (stAt ss i).week 1 60) 1, unlessE (decide (i = 0) || decide (cmpAp (stAt ss (i - 1)) (stAt ss i) < 0)) 7]
set_option maxRecDepth 100000 in
set_option maxHeartbeats 8000000 in
theorem checkAppears1_calls (cl cp g off cap i lo lo' : Nat) (pa : Option Addr) (pc : Nat) (ps : List PD) (ss : List SD) (s : SD) (w : World) (hi : ss[i]? = some s) (hs : OkS s) (hn : ss.length ≤ 1000000)
    (h1 : w.cell? ⟨cl, 0, none⟩ = some (.slice (some ⟨g, off, none⟩) ss.length cap)) (h2 : w.cell? ⟨cp, 0, none⟩ = some (.slice pa ps.length pc)) (hS : Aps w lo (.slice (some ⟨g, off, none⟩) ss.length cap) ss) (hP : Plays w lo' (.slice pa ps.length pc) ps) :
    Calls Tryz.prog 124 #[.int .i64 (i : Int), .pointer (some ⟨cl, 0, none⟩), .pointer (some ⟨cp, 0, none⟩)] w (IntBelow (apF ps ss i) w) := by
  have hlt : i < ss.length := (List.getElem?_eq_some_iff.1 hi).1
  rcases aps_at hS with ⟨h, _⟩ | ⟨g', off', cap', e, _, _, _, hcell⟩
  · cases h
  simp only [Value.slice.injEq, Option.some.injEq, Addr.mk.injEq, and_true, true_and] at e
  obtain ⟨⟨rfl, rfl⟩, rfl⟩ := e
  obtain ⟨q0, q1, q2⟩ := hcell i s hi
  obtain ⟨W, hW⟩ : ∃ W, W = w.alloc (.cells #[.string s.player, .string s.club, .int .i64 s.week] 132) := ⟨_, rfl⟩
  have hwW : Below w.heap.size w W := by rw [hW]; exact below_alloc w _
  have x0 : W.cell? ⟨w.heap.size, 0, none⟩ = some (.string s.player) := by rw [hW, World.cell?_alloc_at _ _ _ _ rfl]; rfl
  have x1 : W.cell? ⟨w.heap.size, 1, none⟩ = some (.string s.club) := by rw [hW, World.cell?_alloc_at _ _ _ _ rfl]; rfl
  have x2 : W.cell? ⟨w.heap.size, 2, none⟩ = some (.int .i64 s.week) := by rw [hW, World.cell?_alloc_at _ _ _ _ rfl]; rfl
  have c1 := below_cell hwW h1
  have c2 := below_cell hwW h2
  have hPW := hP.below hwW
  have hb0 := (Below.refl W.heap.size W).drew
  obtain ⟨hs1, hs2, hs3, hs4⟩ := hs
  by_cases hz : i = 0
  · have e0 : ((i : Int) == 0) = true := by rw [beq_iff_eq]; omega
    have HS := Lib.hid (show ∀ w', Below W.heap.size W w' → (Below W.heap.size W w' ∧ Plays w' lo' (.slice pa ps.length pc) ps ∧ w'.cell? ⟨cl, 0, none⟩ = some (.slice (some ⟨g, off, none⟩) ss.length cap) ∧ w'.cell? ⟨cp, 0, none⟩ = some (.slice pa ps.length pc) ∧ w'.cell? ⟨w.heap.size, 0, none⟩ = some (.string s.player) ∧ w'.cell? ⟨w.heap.size, 1, none⟩ = some (.string s.club) ∧ w'.cell? ⟨w.heap.size, 2, none⟩ = some (.int .i64 s.week)) from fun w' hb => ⟨hb, hPW.below hb, below_cell hb c1, below_cell hb c2, below_cell hb x0, below_cell hb x1, below_cell hb x2⟩)
    have Hr := Lib.hid (show apF ps ss i = firstE [unlessE (knownB ps s.player) 8, unlessE (keyB s.club) 5, unlessE (betwB s.week 1 60) 1, unlessE true 7] by rw [apF, stAt_some hi, hz]; simp)
    clear hz hi c1 c2 x0 x1 x2 hPW hP hcell hS
    go_enter Tryz.func124, Tryz.ntmps124
    go_upto_region 2 with fail
    rw [← hW]
    clear hW
    refine wp_region_held_drew (S := fun w' => Below W.heap.size W w' ∧ Plays w' lo' (.slice pa ps.length pc) ps ∧ w'.cell? ⟨cl, 0, none⟩ = some (.slice (some ⟨g, off, none⟩) ss.length cap) ∧ w'.cell? ⟨cp, 0, none⟩ = some (.slice pa ps.length pc) ∧ w'.cell? ⟨w.heap.size, 0, none⟩ = some (.string s.player) ∧ w'.cell? ⟨w.heap.size, 1, none⟩ = some (.string s.club) ∧ w'.cell? ⟨w.heap.size, 2, none⟩ = some (.int .i64 s.week)) (by kernel_rfl) ?_ (fun hHeld => ?_)
    · (exact HS.out _ (by first | assumption | exact hHeld.1 | exact below_step hHeld.1 (by assumption) | exact below_step hHeld.1 (below_alloc _ _)))
    refine take_at 0 10 (v := ?_) rfl rfl (by kernel_rfl) (by kernel_rfl) (by kernel_rfl) (fun _ _ _ h => h) (by rfl) ?y0a (by assumption) ?r0a
    case y0a =>
      intro w hSw
      try dsimp only at hSw
      go_simp
      try with_reducible rfl
    simp only [List.set_cons_zero, List.set_cons_succ]
    refine take_at 1 11 (v := ?_) rfl rfl (by kernel_rfl) (by kernel_rfl) (by kernel_rfl) (fun _ _ _ h => h) (by rfl) ?y1a (by assumption) ?r1a
    case y1a =>
      intro w hSw
      try dsimp only at hSw
      go_simp
      try with_reducible rfl
    simp only [List.set_cons_zero, List.set_cons_succ]
    refine take_at 2 12 (v := ?_) rfl rfl (by kernel_rfl) (by kernel_rfl) (by kernel_rfl) (fun _ _ _ h => h) (by rfl) ?y2a (by assumption) ?r2a
    case y2a =>
      intro w hSw
      try dsimp only at hSw
      go_simp
      try with_reducible rfl
    simp only [List.set_cons_zero, List.set_cons_succ]
    refine take_at 5 15 (v := ?_) rfl rfl (by kernel_rfl) (by kernel_rfl) (by kernel_rfl) (fun _ _ _ h => h) (by rfl) ?y5a (by assumption) ?r5a
    case y5a =>
      intro w hSw
      try dsimp only at hSw
      go_simp
      try with_reducible rfl
    simp only [List.set_cons_zero, List.set_cons_succ]
    refine take_at 6 16 (v := ?_) rfl rfl (by kernel_rfl) (by kernel_rfl) (by kernel_rfl) (fun _ _ _ h => h) (by rfl) ?y6a (by assumption) ?r6a
    case y6a =>
      intro w hSw
      try dsimp only at hSw
      go_simp
      try with_reducible rfl
    simp only [List.set_cons_zero, List.set_cons_succ]
    refine take_at 9 19 (v := ?_) rfl rfl (by kernel_rfl) (by kernel_rfl) (by kernel_rfl) (fun _ _ _ h => h) (by rfl) ?y9a (by assumption) ?r9a
    case y9a =>
      intro w hSw
      try dsimp only at hSw
      go_simp
      try with_reducible rfl
    simp only [List.set_cons_zero, List.set_cons_succ]
    refine take_at 10 20 (v := ?_) rfl rfl (by kernel_rfl) (by kernel_rfl) (by kernel_rfl) (fun _ _ _ h => h) (by rfl) ?y10a (by assumption) ?r10a
    case y10a =>
      intro w hSw
      try dsimp only at hSw
      go_simp
      try with_reducible rfl
    simp only [List.set_cons_zero, List.set_cons_succ]
    refine take_at 13 23 (v := ?_) rfl rfl (by kernel_rfl) (by kernel_rfl) (by kernel_rfl) (fun _ _ _ h => h) (by rfl) ?y13a (by assumption) ?r13a
    case y13a =>
      intro w hSw
      try dsimp only at hSw
      go_simp
      try with_reducible rfl
    simp only [List.set_cons_zero, List.set_cons_succ]
    refine take_at 14 24 (v := ?_) rfl rfl (by kernel_rfl) (by kernel_rfl) (by kernel_rfl) (fun _ _ _ h => h) (by rfl) ?y14a (by assumption) ?r14a
    case y14a =>
      intro w hSw
      try dsimp only at hSw
      go_simp
      try with_reducible rfl
    simp only [List.set_cons_zero, List.set_cons_succ]
    refine run_at 3 rfl (by kernel_rfl) (by rfl) (fun K hK => ?_)
    go_simp
    refine (known_calls lo' _ _ ps _ (by exact hHeld.2.1)).mono ?_
    rintro e w' ⟨rfl, hb⟩
    go_wp2_with fail
    refine hK.out _ _ ?_ (fun hHeld => ?_)
    · (exact HS.out _ (by first | assumption | exact hHeld.1 | exact below_step hHeld.1 (by assumption) | exact below_step hHeld.1 (below_alloc _ _)))
    clear hK K
    try simp only [Act.put, List.setIfInBounds_toArray, List.set_cons_zero, List.set_cons_succ]
    refine run_at 4 rfl (by kernel_rfl) (by rfl) (fun K hK => ?_)
    go_simp
    refine (unless_calls _ _ _).mono ?_
    rintro e w' ⟨rfl, rfl⟩
    go_wp2_with fail
    refine hK.out _ _ ?_ (fun hHeld => ?_)
    · (exact HS.out _ (by first | assumption | exact hHeld.1 | exact below_step hHeld.1 (by assumption) | exact below_step hHeld.1 (below_alloc _ _)))
    clear hK K
    try simp only [Act.put, List.setIfInBounds_toArray, List.set_cons_zero, List.set_cons_succ]
    refine run_at 7 rfl (by kernel_rfl) (by rfl) (fun K hK => ?_)
    go_simp
    refine (key_calls _ _ (by omega)).mono ?_
    rintro e w' ⟨rfl, rfl⟩
    go_wp2_with fail
    refine hK.out _ _ ?_ (fun hHeld => ?_)
    · (exact HS.out _ (by first | assumption | exact hHeld.1 | exact below_step hHeld.1 (by assumption) | exact below_step hHeld.1 (below_alloc _ _)))
    clear hK K
    try simp only [Act.put, List.setIfInBounds_toArray, List.set_cons_zero, List.set_cons_succ]
    refine run_at 8 rfl (by kernel_rfl) (by rfl) (fun K hK => ?_)
    go_simp
    refine (unless_calls _ _ _).mono ?_
    rintro e w' ⟨rfl, rfl⟩
    go_wp2_with fail
    refine hK.out _ _ ?_ (fun hHeld => ?_)
    · (exact HS.out _ (by first | assumption | exact hHeld.1 | exact below_step hHeld.1 (by assumption) | exact below_step hHeld.1 (below_alloc _ _)))
    clear hK K
    try simp only [Act.put, List.setIfInBounds_toArray, List.set_cons_zero, List.set_cons_succ]
    refine run_at 11 rfl (by kernel_rfl) (by rfl) (fun K hK => ?_)
    go_simp
    refine (week_calls _ _).mono ?_
    rintro e w' ⟨rfl, rfl⟩
    go_wp2_with fail
    refine hK.out _ _ ?_ (fun hHeld => ?_)
    · (exact HS.out _ (by first | assumption | exact hHeld.1 | exact below_step hHeld.1 (by assumption) | exact below_step hHeld.1 (below_alloc _ _)))
    clear hK K
    try simp only [Act.put, List.setIfInBounds_toArray, List.set_cons_zero, List.set_cons_succ]
    refine run_at 12 rfl (by kernel_rfl) (by rfl) (fun K hK => ?_)
    go_simp
    refine (unless_calls _ _ _).mono ?_
    rintro e w' ⟨rfl, rfl⟩
    go_wp2_with fail
    refine hK.out _ _ ?_ (fun hHeld => ?_)
    · (exact HS.out _ (by first | assumption | exact hHeld.1 | exact below_step hHeld.1 (by assumption) | exact below_step hHeld.1 (below_alloc _ _)))
    clear hK K
    try simp only [Act.put, List.setIfInBounds_toArray, List.set_cons_zero, List.set_cons_succ]
    refine take_at 15 25 (v := ?_) rfl rfl (by kernel_rfl) (by kernel_rfl) (by kernel_rfl) (fun _ _ _ h => h) (by rfl) ?y15a (by assumption) ?r15a
    case y15a =>
      intro w hSw
      try dsimp only at hSw
      go_simp
      try with_reducible rfl
    simp only [List.set_cons_zero, List.set_cons_succ]
    refine skip_at 16 26 rfl rfl (by kernel_rfl) (by kernel_rfl) (by kernel_rfl) (fun _ _ _ h => h) (by rfl) (by assumption) ?_
    simp only [List.set_cons_zero, List.set_cons_succ]
    refine skip_at 17 27 rfl rfl (by kernel_rfl) (by kernel_rfl) (by kernel_rfl) (fun _ _ _ h => h) (by rfl) (by assumption) ?_
    simp only [List.set_cons_zero, List.set_cons_succ]
    refine skip_at 18 28 rfl rfl (by kernel_rfl) (by kernel_rfl) (by kernel_rfl) (fun _ _ _ h => h) (by rfl) (by assumption) ?_
    simp only [List.set_cons_zero, List.set_cons_succ]
    refine skip_at 19 29 rfl rfl (by kernel_rfl) (by kernel_rfl) (by kernel_rfl) (fun _ _ _ h => h) (by rfl) (by assumption) ?_
    simp only [List.set_cons_zero, List.set_cons_succ]
    refine skip_at 20 30 rfl rfl (by kernel_rfl) (by kernel_rfl) (by kernel_rfl) (fun _ _ _ h => h) (by rfl) (by assumption) ?_
    simp only [List.set_cons_zero, List.set_cons_succ]
    refine skip_at 21 31 rfl rfl (by kernel_rfl) (by kernel_rfl) (by kernel_rfl) (fun _ _ _ h => h) (by rfl) (by assumption) ?_
    simp only [List.set_cons_zero, List.set_cons_succ]
    refine skip_at 22 32 rfl rfl (by kernel_rfl) (by kernel_rfl) (by kernel_rfl) (fun _ _ _ h => h) (by rfl) (by assumption) ?_
    simp only [List.set_cons_zero, List.set_cons_succ]
    refine skip_at 23 33 rfl rfl (by kernel_rfl) (by kernel_rfl) (by kernel_rfl) (fun _ _ _ h => h) (by rfl) (by assumption) ?_
    simp only [List.set_cons_zero, List.set_cons_succ]
    refine take_at 24 34 (v := ?_) rfl rfl (by kernel_rfl) (by kernel_rfl) (by kernel_rfl) (fun _ _ _ h => h) (by rfl) ?y24a (by assumption) ?r24a
    case y24a =>
      intro w hSw
      try dsimp only at hSw
      go_simp
      try with_reducible rfl
    simp only [List.set_cons_zero, List.set_cons_succ]
    refine run_at 25 rfl (by kernel_rfl) (by rfl) (fun K hK => ?_)
    go_simp
    refine (unless_calls _ _ _).mono ?_
    rintro e w' ⟨rfl, rfl⟩
    go_wp2_with fail
    refine hK.out _ _ ?_ (fun hHeld => ?_)
    · (exact HS.out _ (by first | assumption | exact hHeld.1 | exact below_step hHeld.1 (by assumption) | exact below_step hHeld.1 (below_alloc _ _)))
    clear hK K
    try simp only [Act.put, List.setIfInBounds_toArray, List.set_cons_zero, List.set_cons_succ]
    refine run_at 26 rfl (by kernel_rfl) (by rfl) (fun K hK => ?_)
    go_simp
    refine hK.out _ _ ?_ (fun hHeld => ?_)
    · (exact HS.out _ (by first | assumption | exact hHeld.1 | exact below_step hHeld.1 (by assumption) | exact below_step hHeld.1 (below_alloc _ _)))
    clear hK K
    try simp only [Act.put, List.setIfInBounds_toArray, List.set_cons_zero, List.set_cons_succ]
    refine run_at 27 rfl (by kernel_rfl) (by rfl) (fun K hK => ?_)
    go_simp
    refine (orE_calls _ 0 4 [unlessE (knownB ps s.player) 8, unlessE (keyB s.club) 5, unlessE (betwB s.week 1 60) 1, unlessE true 7] _ (by simp) (by exact nums4 _ _ _ _ _ _)).mono ?_
    rintro e w' ⟨rfl, rfl⟩
    go_wp2_with fail
    refine hK.out _ _ ?_ (fun hHeld => ?_)
    · (exact HS.out _ (by first | assumption | exact hHeld.1 | exact below_step hHeld.1 (by assumption) | exact below_step hHeld.1 (below_alloc _ _)))
    clear hK K
    try simp only [Act.put, List.setIfInBounds_toArray, List.set_cons_zero, List.set_cons_succ]
    refine take_at 28 4 (v := ?_) rfl rfl (by kernel_rfl) (by kernel_rfl) (by kernel_rfl) (fun _ _ _ h => h) (by rfl) ?y28a (by assumption) ?r28a
    case y28a =>
      intro w hSw
      try dsimp only at hSw
      go_simp
      try with_reducible rfl
    simp only [List.set_cons_zero, List.set_cons_succ]
    refine wpAnyH_done (by kernel_rfl) ?_ _
    go_wp2_with fail
    go_ret
    exact ⟨ret_int Hr.out.symm, below_step hwW hHeld.1⟩
  · obtain ⟨sp, hsp⟩ : ∃ sp, ss[i - 1]? = some sp := ⟨_, List.getElem?_eq_getElem (show i - 1 < ss.length by omega)⟩
    obtain ⟨r0, r1, r2⟩ := hcell (i - 1) sp hsp
    have r0W := below_cell hwW r0
    have r1W := below_cell hwW r1
    have r2W := below_cell hwW r2
    have e0 : ((i : Int) == 0) = false := by rw [beq_eq_false_iff_ne]; omega
    have w1 : IntKind.i64.wrap ((i : Int) - 1) = ((i - 1 : Nat) : Int) := by rw [IntWalk.i64_in _ (by omega)]; omega
    have w2 : ((i - 1 : Nat) : Int) < (ss.length : Int) := by omega
    have HS := Lib.hid (show ∀ w', Below W.heap.size W w' → (Below W.heap.size W w' ∧ Plays w' lo' (.slice pa ps.length pc) ps ∧ w'.cell? ⟨cl, 0, none⟩ = some (.slice (some ⟨g, off, none⟩) ss.length cap) ∧ w'.cell? ⟨cp, 0, none⟩ = some (.slice pa ps.length pc) ∧ w'.cell? ⟨w.heap.size, 0, none⟩ = some (.string s.player) ∧ w'.cell? ⟨w.heap.size, 1, none⟩ = some (.string s.club) ∧ w'.cell? ⟨w.heap.size, 2, none⟩ = some (.int .i64 s.week) ∧ w'.cell? ⟨g, off + (i - 1) * 3, none⟩ = some (.string sp.player) ∧ w'.cell? ⟨g, off + (i - 1) * 3 + 1, none⟩ = some (.string sp.club) ∧ w'.cell? ⟨g, off + (i - 1) * 3 + 2, none⟩ = some (.int .i64 sp.week)) from fun w' hb => ⟨hb, hPW.below hb, below_cell hb c1, below_cell hb c2, below_cell hb x0, below_cell hb x1, below_cell hb x2, below_cell hb r0W, below_cell hb r1W, below_cell hb r2W⟩)
    have Hr := Lib.hid (show apF ps ss i = firstE [unlessE (knownB ps s.player) 8, unlessE (keyB s.club) 5, unlessE (betwB s.week 1 60) 1, unlessE (decide (cmpAp sp s < 0)) 7] by rw [apF, stAt_some hi, stAt_some hsp]; simp [hz])
    clear hz hi c1 c2 x0 x1 x2 hPW hP hcell hS r0 r1 r2 r0W r1W r2W hsp
    go_enter Tryz.func124, Tryz.ntmps124
    go_upto_region 2 with fail
    rw [← hW]
    clear hW
    refine wp_region_held_drew (S := fun w' => Below W.heap.size W w' ∧ Plays w' lo' (.slice pa ps.length pc) ps ∧ w'.cell? ⟨cl, 0, none⟩ = some (.slice (some ⟨g, off, none⟩) ss.length cap) ∧ w'.cell? ⟨cp, 0, none⟩ = some (.slice pa ps.length pc) ∧ w'.cell? ⟨w.heap.size, 0, none⟩ = some (.string s.player) ∧ w'.cell? ⟨w.heap.size, 1, none⟩ = some (.string s.club) ∧ w'.cell? ⟨w.heap.size, 2, none⟩ = some (.int .i64 s.week) ∧ w'.cell? ⟨g, off + (i - 1) * 3, none⟩ = some (.string sp.player) ∧ w'.cell? ⟨g, off + (i - 1) * 3 + 1, none⟩ = some (.string sp.club) ∧ w'.cell? ⟨g, off + (i - 1) * 3 + 2, none⟩ = some (.int .i64 sp.week)) (by kernel_rfl) ?_ (fun hHeld => ?_)
    · (exact HS.out _ (by first | assumption | exact hHeld.1 | exact below_step hHeld.1 (by assumption) | exact below_step hHeld.1 (below_alloc _ _)))
    refine take_at 0 10 (v := ?_) rfl rfl (by kernel_rfl) (by kernel_rfl) (by kernel_rfl) (fun _ _ _ h => h) (by rfl) ?y0b (by assumption) ?r0b
    case y0b =>
      intro w hSw
      try dsimp only at hSw
      go_simp
      try with_reducible rfl
    simp only [List.set_cons_zero, List.set_cons_succ]
    refine take_at 1 11 (v := ?_) rfl rfl (by kernel_rfl) (by kernel_rfl) (by kernel_rfl) (fun _ _ _ h => h) (by rfl) ?y1b (by assumption) ?r1b
    case y1b =>
      intro w hSw
      try dsimp only at hSw
      go_simp
      try with_reducible rfl
    simp only [List.set_cons_zero, List.set_cons_succ]
    refine take_at 2 12 (v := ?_) rfl rfl (by kernel_rfl) (by kernel_rfl) (by kernel_rfl) (fun _ _ _ h => h) (by rfl) ?y2b (by assumption) ?r2b
    case y2b =>
      intro w hSw
      try dsimp only at hSw
      go_simp
      try with_reducible rfl
    simp only [List.set_cons_zero, List.set_cons_succ]
    refine take_at 5 15 (v := ?_) rfl rfl (by kernel_rfl) (by kernel_rfl) (by kernel_rfl) (fun _ _ _ h => h) (by rfl) ?y5b (by assumption) ?r5b
    case y5b =>
      intro w hSw
      try dsimp only at hSw
      go_simp
      try with_reducible rfl
    simp only [List.set_cons_zero, List.set_cons_succ]
    refine take_at 6 16 (v := ?_) rfl rfl (by kernel_rfl) (by kernel_rfl) (by kernel_rfl) (fun _ _ _ h => h) (by rfl) ?y6b (by assumption) ?r6b
    case y6b =>
      intro w hSw
      try dsimp only at hSw
      go_simp
      try with_reducible rfl
    simp only [List.set_cons_zero, List.set_cons_succ]
    refine take_at 9 19 (v := ?_) rfl rfl (by kernel_rfl) (by kernel_rfl) (by kernel_rfl) (fun _ _ _ h => h) (by rfl) ?y9b (by assumption) ?r9b
    case y9b =>
      intro w hSw
      try dsimp only at hSw
      go_simp
      try with_reducible rfl
    simp only [List.set_cons_zero, List.set_cons_succ]
    refine take_at 10 20 (v := ?_) rfl rfl (by kernel_rfl) (by kernel_rfl) (by kernel_rfl) (fun _ _ _ h => h) (by rfl) ?y10b (by assumption) ?r10b
    case y10b =>
      intro w hSw
      try dsimp only at hSw
      go_simp
      try with_reducible rfl
    simp only [List.set_cons_zero, List.set_cons_succ]
    refine take_at 13 23 (v := ?_) rfl rfl (by kernel_rfl) (by kernel_rfl) (by kernel_rfl) (fun _ _ _ h => h) (by rfl) ?y13b (by assumption) ?r13b
    case y13b =>
      intro w hSw
      try dsimp only at hSw
      go_simp
      try with_reducible rfl
    simp only [List.set_cons_zero, List.set_cons_succ]
    refine take_at 14 24 (v := ?_) rfl rfl (by kernel_rfl) (by kernel_rfl) (by kernel_rfl) (fun _ _ _ h => h) (by rfl) ?y14b (by assumption) ?r14b
    case y14b =>
      intro w hSw
      try dsimp only at hSw
      go_simp
      try with_reducible rfl
    simp only [List.set_cons_zero, List.set_cons_succ]
    refine run_at 3 rfl (by kernel_rfl) (by rfl) (fun K hK => ?_)
    go_simp
    refine (known_calls lo' _ _ ps _ (by exact hHeld.2.1)).mono ?_
    rintro e w' ⟨rfl, hb⟩
    go_wp2_with fail
    refine hK.out _ _ ?_ (fun hHeld => ?_)
    · (exact HS.out _ (by first | assumption | exact hHeld.1 | exact below_step hHeld.1 (by assumption) | exact below_step hHeld.1 (below_alloc _ _)))
    clear hK K
    try simp only [Act.put, List.setIfInBounds_toArray, List.set_cons_zero, List.set_cons_succ]
    refine run_at 4 rfl (by kernel_rfl) (by rfl) (fun K hK => ?_)
    go_simp
    refine (unless_calls _ _ _).mono ?_
    rintro e w' ⟨rfl, rfl⟩
    go_wp2_with fail
    refine hK.out _ _ ?_ (fun hHeld => ?_)
    · (exact HS.out _ (by first | assumption | exact hHeld.1 | exact below_step hHeld.1 (by assumption) | exact below_step hHeld.1 (below_alloc _ _)))
    clear hK K
    try simp only [Act.put, List.setIfInBounds_toArray, List.set_cons_zero, List.set_cons_succ]
    refine run_at 7 rfl (by kernel_rfl) (by rfl) (fun K hK => ?_)
    go_simp
    refine (key_calls _ _ (by omega)).mono ?_
    rintro e w' ⟨rfl, rfl⟩
    go_wp2_with fail
    refine hK.out _ _ ?_ (fun hHeld => ?_)
    · (exact HS.out _ (by first | assumption | exact hHeld.1 | exact below_step hHeld.1 (by assumption) | exact below_step hHeld.1 (below_alloc _ _)))
    clear hK K
    try simp only [Act.put, List.setIfInBounds_toArray, List.set_cons_zero, List.set_cons_succ]
    refine run_at 8 rfl (by kernel_rfl) (by rfl) (fun K hK => ?_)
    go_simp
    refine (unless_calls _ _ _).mono ?_
    rintro e w' ⟨rfl, rfl⟩
    go_wp2_with fail
    refine hK.out _ _ ?_ (fun hHeld => ?_)
    · (exact HS.out _ (by first | assumption | exact hHeld.1 | exact below_step hHeld.1 (by assumption) | exact below_step hHeld.1 (below_alloc _ _)))
    clear hK K
    try simp only [Act.put, List.setIfInBounds_toArray, List.set_cons_zero, List.set_cons_succ]
    refine run_at 11 rfl (by kernel_rfl) (by rfl) (fun K hK => ?_)
    go_simp
    refine (week_calls _ _).mono ?_
    rintro e w' ⟨rfl, rfl⟩
    go_wp2_with fail
    refine hK.out _ _ ?_ (fun hHeld => ?_)
    · (exact HS.out _ (by first | assumption | exact hHeld.1 | exact below_step hHeld.1 (by assumption) | exact below_step hHeld.1 (below_alloc _ _)))
    clear hK K
    try simp only [Act.put, List.setIfInBounds_toArray, List.set_cons_zero, List.set_cons_succ]
    refine run_at 12 rfl (by kernel_rfl) (by rfl) (fun K hK => ?_)
    go_simp
    refine (unless_calls _ _ _).mono ?_
    rintro e w' ⟨rfl, rfl⟩
    go_wp2_with fail
    refine hK.out _ _ ?_ (fun hHeld => ?_)
    · (exact HS.out _ (by first | assumption | exact hHeld.1 | exact below_step hHeld.1 (by assumption) | exact below_step hHeld.1 (below_alloc _ _)))
    clear hK K
    try simp only [Act.put, List.setIfInBounds_toArray, List.set_cons_zero, List.set_cons_succ]
    refine take_at 15 25 (v := ?_) rfl rfl (by kernel_rfl) (by kernel_rfl) (by kernel_rfl) (fun _ _ _ h => h) (by rfl) ?y15b (by assumption) ?r15b
    case y15b =>
      intro w hSw
      try dsimp only at hSw
      go_simp
      try with_reducible rfl
    simp only [List.set_cons_zero, List.set_cons_succ]
    refine take_at 16 26 (v := ?_) rfl rfl (by kernel_rfl) (by kernel_rfl) (by kernel_rfl) (fun _ _ _ h => h) (by rfl) ?y16b (by assumption) ?r16b
    case y16b =>
      intro w hSw
      try dsimp only at hSw
      go_simp
      try with_reducible rfl
    simp only [List.set_cons_zero, List.set_cons_succ]
    refine take_at 17 27 (v := ?_) rfl rfl (by kernel_rfl) (by kernel_rfl) (by kernel_rfl) (fun _ _ _ h => h) (by rfl) ?y17b (by assumption) ?r17b
    case y17b =>
      intro w hSw
      try dsimp only at hSw
      go_simp
      try with_reducible rfl
    simp only [List.set_cons_zero, List.set_cons_succ]
    refine take_at 18 28 (v := ?_) rfl rfl (by kernel_rfl) (by kernel_rfl) (by kernel_rfl) (fun _ _ _ h => h) (by rfl) ?y18b (by assumption) ?r18b
    case y18b =>
      intro w hSw
      try dsimp only at hSw
      go_simp
      try with_reducible rfl
    simp only [List.set_cons_zero, List.set_cons_succ]
    refine take_at 19 29 (v := ?_) rfl rfl (by kernel_rfl) (by kernel_rfl) (by kernel_rfl) (fun _ _ _ h => h) (by rfl) ?y19b (by assumption) ?r19b
    case y19b =>
      intro w hSw
      try dsimp only at hSw
      go_simp
      try with_reducible rfl
    simp only [List.set_cons_zero, List.set_cons_succ]
    refine take_at 20 30 (v := ?_) rfl rfl (by kernel_rfl) (by kernel_rfl) (by kernel_rfl) (fun _ _ _ h => h) (by rfl) ?y20b (by assumption) ?r20b
    case y20b =>
      intro w hSw
      try dsimp only at hSw
      go_simp
      try with_reducible rfl
    simp only [List.set_cons_zero, List.set_cons_succ]
    refine take_at 21 31 (v := ?_) rfl rfl (by kernel_rfl) (by kernel_rfl) (by kernel_rfl) (fun _ _ _ h => h) (by rfl) ?y21b (by assumption) ?r21b
    case y21b =>
      intro w hSw
      try dsimp only at hSw
      go_simp
      try with_reducible rfl
    simp only [List.set_cons_zero, List.set_cons_succ]
    refine run_at 22 rfl (by kernel_rfl) (by rfl) (fun K hK => ?_)
    go_simp
    refine (compareAppears_calls sp s _).mono ?_
    rintro e w' ⟨rfl, hb⟩
    go_wp2_with fail
    refine hK.out _ _ ?_ (fun hHeld => ?_)
    · (exact HS.out _ (by first | assumption | exact hHeld.1 | exact below_step hHeld.1 (by assumption) | exact below_step hHeld.1 (below_alloc _ _)))
    clear hK K
    try simp only [Act.put, List.setIfInBounds_toArray, List.set_cons_zero, List.set_cons_succ]
    refine take_at 23 33 (v := ?_) rfl rfl (by kernel_rfl) (by kernel_rfl) (by kernel_rfl) (fun _ _ _ h => h) (by rfl) ?y23b (by assumption) ?r23b
    case y23b =>
      intro w hSw
      try dsimp only at hSw
      go_simp
      try with_reducible rfl
    simp only [List.set_cons_zero, List.set_cons_succ]
    refine take_at 24 34 (v := ?_) rfl rfl (by kernel_rfl) (by kernel_rfl) (by kernel_rfl) (fun _ _ _ h => h) (by rfl) ?y24b (by assumption) ?r24b
    case y24b =>
      intro w hSw
      try dsimp only at hSw
      go_simp
      try with_reducible rfl
    simp only [List.set_cons_zero, List.set_cons_succ]
    refine run_at 25 rfl (by kernel_rfl) (by rfl) (fun K hK => ?_)
    go_simp
    refine (unless_calls _ _ _).mono ?_
    rintro e w' ⟨rfl, rfl⟩
    go_wp2_with fail
    refine hK.out _ _ ?_ (fun hHeld => ?_)
    · (exact HS.out _ (by first | assumption | exact hHeld.1 | exact below_step hHeld.1 (by assumption) | exact below_step hHeld.1 (below_alloc _ _)))
    clear hK K
    try simp only [Act.put, List.setIfInBounds_toArray, List.set_cons_zero, List.set_cons_succ]
    refine run_at 26 rfl (by kernel_rfl) (by rfl) (fun K hK => ?_)
    go_simp
    refine hK.out _ _ ?_ (fun hHeld => ?_)
    · (exact HS.out _ (by first | assumption | exact hHeld.1 | exact below_step hHeld.1 (by assumption) | exact below_step hHeld.1 (below_alloc _ _)))
    clear hK K
    try simp only [Act.put, List.setIfInBounds_toArray, List.set_cons_zero, List.set_cons_succ]
    refine run_at 27 rfl (by kernel_rfl) (by rfl) (fun K hK => ?_)
    go_simp
    refine (orE_calls _ 0 4 [unlessE (knownB ps s.player) 8, unlessE (keyB s.club) 5, unlessE (betwB s.week 1 60) 1, unlessE (decide (cmpAp sp s < 0)) 7] _ (by simp) (by exact nums4 _ _ _ _ _ _)).mono ?_
    rintro e w' ⟨rfl, rfl⟩
    go_wp2_with fail
    refine hK.out _ _ ?_ (fun hHeld => ?_)
    · (exact HS.out _ (by first | assumption | exact hHeld.1 | exact below_step hHeld.1 (by assumption) | exact below_step hHeld.1 (below_alloc _ _)))
    clear hK K
    try simp only [Act.put, List.setIfInBounds_toArray, List.set_cons_zero, List.set_cons_succ]
    refine take_at 28 4 (v := ?_) rfl rfl (by kernel_rfl) (by kernel_rfl) (by kernel_rfl) (fun _ _ _ h => h) (by rfl) ?y28b (by assumption) ?r28b
    case y28b =>
      intro w hSw
      try dsimp only at hSw
      go_simp
      try with_reducible rfl
    simp only [List.set_cons_zero, List.set_cons_succ]
    refine wpAnyH_done (by kernel_rfl) ?_ _
    go_wp2_with fail
    go_ret
    exact ⟨ret_int Hr.out.symm, below_step hwW hHeld.1⟩

def chkAp (ps : List PD) (ss : List SD) : Int := firstE [chkPs ps, eachE ss.length 2000 (apF ps ss)]
set_option maxRecDepth 100000 in
set_option maxHeartbeats 2000000 in
theorem checkAppears_calls (lo lo' : Nat) (pv v : Value) (ps : List PD) (ss : List SD) (w : World) (hp : Plays w lo' pv ps) (hps : ∀ p ∈ ps, SmallP p) (hpn : ps.length ≤ 1000000) (hG : Glob w) (hS : Aps w lo v ss) (hss : ∀ s ∈ ss, OkS s) (hsn : ss.length ≤ 1000000) :
    Calls Tryz.prog 54 #[pv, v] w (IntBelow (chkAp ps ss) w) := by
  obtain ⟨pa, pc, rfl⟩ := plays_shape hp
  obtain ⟨sa, sc, rfl⟩ := aps_shape hS
  obtain ⟨W, hW⟩ : ∃ W, W = (w.alloc (.cells #[.slice pa ps.length pc] 26)).alloc (.cells #[.slice sa ss.length sc] 73) := ⟨_, rfl⟩
  have hwW : Below w.heap.size w W := by rw [hW]; exact below2 w _ _
  have x0 : W.cell? ⟨w.heap.size, 0, none⟩ = some (.slice pa ps.length pc) := by rw [hW]; exact two_cell0 w _ _ _ _
  have x1 : W.cell? ⟨w.heap.size + 1, 0, none⟩ = some (.slice sa ss.length sc) := by rw [hW]; exact two_cell1 w _ _ _ _
  have hpW := hp.below hwW
  have hSW := hS.below hwW
  have hGW := hG.below hwW
  have HS := Lib.hid (show ∀ w', Below W.heap.size W w' → (Below W.heap.size W w' ∧ Glob w' ∧ Plays w' lo' (.slice pa ps.length pc) ps ∧ Aps w' lo (.slice sa ss.length sc) ss ∧ w'.cell? ⟨w.heap.size, 0, none⟩ = some (.slice pa ps.length pc) ∧ w'.cell? ⟨w.heap.size + 1, 0, none⟩ = some (.slice sa ss.length sc)) from fun w' hb => ⟨hb, hGW.below hb, hpW.below hb, hSW.below hb, below_cell hb x0, below_cell hb x1⟩)
  have hf : ∀ (X W2 : World) (i : Nat), Below W.heap.size W X → i < ss.length → Below X.heap.size X W2 → Calls Tryz.prog 124 (#[.int .i64 (i : Int)] ++ #[.pointer (some ⟨w.heap.size + 1, 0, none⟩), .pointer (some ⟨w.heap.size, 0, none⟩)]) W2 (IntBelow (apF ps ss i) W2) := by
    intro X W2 i hX hi hb
    obtain ⟨_, _, hp2, hS2, y0, y1⟩ := HS.out W2 (below_step hX hb)
    obtain ⟨s, hsi⟩ : ∃ s, ss[i]? = some s := ⟨ss[i], List.getElem?_eq_getElem hi⟩
    rcases aps_at hS2 with ⟨_, rfl⟩ | ⟨g, off, cap, e, _⟩
    · simp at hi
    · rw [e] at hS2 y1
      exact checkAppears1_calls (w.heap.size + 1) w.heap.size g off cap i lo lo' pa pc ps ss s W2 hsi (hss s (List.mem_of_getElem? hsi)) hsn y1 y0 hS2 hp2
  have Hf := Lib.hid hf
  have hb0 := (Below.refl W.heap.size W).drew
  clear hf x0 x1 hpW hSW hGW hp hS hG
  go_enter Tryz.func54, Tryz.ntmps54
  go_upto_region 1 with fail
  rw [← hW]
  clear hW
  refine wp_region_held_drew (S := fun w' => Below W.heap.size W w' ∧ Glob w' ∧ Plays w' lo' (.slice pa ps.length pc) ps ∧ Aps w' lo (.slice sa ss.length sc) ss ∧ w'.cell? ⟨w.heap.size, 0, none⟩ = some (.slice pa ps.length pc) ∧ w'.cell? ⟨w.heap.size + 1, 0, none⟩ = some (.slice sa ss.length sc)) (by kernel_rfl) ?_ (fun hHeld => ?_)
  · (exact HS.out _ (by first | assumption | exact hHeld.1 | exact below_step hHeld.1 (by assumption) | exact below_step hHeld.1 (below_alloc _ _)))
  refine take_at 0 5 (v := ?_) rfl rfl (by kernel_rfl) (by kernel_rfl) (by kernel_rfl) (fun _ _ _ h => h) (by rfl) ?y0k (by assumption) ?r0k
  case y0k =>
    intro w hSw
    try dsimp only at hSw
    go_simp
    try with_reducible rfl
  simp only [List.set_cons_zero, List.set_cons_succ]
  refine take_at 2 7 (v := ?_) rfl rfl (by kernel_rfl) (by kernel_rfl) (by kernel_rfl) (fun _ _ _ h => h) (by rfl) ?y2k (by assumption) ?r2k
  case y2k =>
    intro w hSw
    try dsimp only at hSw
    go_simp
    try with_reducible rfl
  simp only [List.set_cons_zero, List.set_cons_succ]
  refine take_at 3 8 (v := ?_) rfl rfl (by kernel_rfl) (by kernel_rfl) (by kernel_rfl) (fun _ _ _ h => h) (by rfl) ?y3k (by assumption) ?r3k
  case y3k =>
    intro w hSw
    try dsimp only at hSw
    go_simp
    try with_reducible rfl
  simp only [List.set_cons_zero, List.set_cons_succ]
  refine take_at 4 9 (v := ?_) rfl rfl (by kernel_rfl) (by kernel_rfl) (by kernel_rfl) (fun _ _ _ h => h) (by rfl) ?y4k (by assumption) ?r4k
  case y4k =>
    intro w hSw
    try dsimp only at hSw
    go_simp
    try with_reducible rfl
  simp only [List.set_cons_zero, List.set_cons_succ]
  refine run_at 1 rfl (by kernel_rfl) (by rfl) (fun K hK => ?_)
  go_simp
  refine (checkPlayers_calls lo' _ ps _ (by exact hHeld.2.2.1) hps hpn (by exact hHeld.2.1)).mono ?_
  rintro e w' ⟨rfl, hb⟩
  go_wp2_with fail
  refine hK.out _ _ ?_ (fun hHeld => ?_)
  · (exact HS.out _ (by first | assumption | exact hHeld.1 | exact below_step hHeld.1 (by assumption) | exact below_step hHeld.1 (below_alloc _ _)))
  clear hK K
  try simp only [Act.put, List.setIfInBounds_toArray, List.set_cons_zero, List.set_cons_succ]
  refine run_at 5 rfl (by kernel_rfl) (by rfl) (fun K hK => ?_)
  go_simp
  refine (each_calls 124 #[.pointer (some ⟨w.heap.size + 1, 0, none⟩), .pointer (some ⟨w.heap.size, 0, none⟩)] (enters_of Tryz.func124 (by kernel_rfl) rfl) (apF ps ss) ss.length 2000 _ hsn (by exact fun W2 i hi hb => Hf.out _ W2 i hHeld.1 hi hb)).mono ?_
  rintro e w' ⟨rfl, hb⟩
  go_wp2_with fail
  refine hK.out _ _ ?_ (fun hHeld => ?_)
  · (exact HS.out _ (by first | assumption | exact hHeld.1 | exact below_step hHeld.1 (by assumption) | exact below_step hHeld.1 (below_alloc _ _)))
  clear hK K
  try simp only [Act.put, List.setIfInBounds_toArray, List.set_cons_zero, List.set_cons_succ]
  refine run_at 6 rfl (by kernel_rfl) (by rfl) (fun K hK => ?_)
  go_simp
  refine hK.out _ _ ?_ (fun hHeld => ?_)
  · (exact HS.out _ (by first | assumption | exact hHeld.1 | exact below_step hHeld.1 (by assumption) | exact below_step hHeld.1 (below_alloc _ _)))
  clear hK K
  try simp only [Act.put, List.setIfInBounds_toArray, List.set_cons_zero, List.set_cons_succ]
  refine run_at 7 rfl (by kernel_rfl) (by rfl) (fun K hK => ?_)
  go_simp
  refine (orE_calls _ 0 2 [chkPs ps, eachE ss.length 2000 (apF ps ss)] _ (by simp) (by exact nums2 _ _ _ _)).mono ?_
  rintro e w' ⟨rfl, rfl⟩
  go_wp2_with fail
  refine hK.out _ _ ?_ (fun hHeld => ?_)
  · (exact HS.out _ (by first | assumption | exact hHeld.1 | exact below_step hHeld.1 (by assumption) | exact below_step hHeld.1 (below_alloc _ _)))
  clear hK K
  try simp only [Act.put, List.setIfInBounds_toArray, List.set_cons_zero, List.set_cons_succ]
  refine take_at 8 4 (v := ?_) rfl rfl (by kernel_rfl) (by kernel_rfl) (by kernel_rfl) (fun _ _ _ h => h) (by rfl) ?y8k (by assumption) ?r8k
  case y8k =>
    intro w hSw
    try dsimp only at hSw
    go_simp
    try with_reducible rfl
  simp only [List.set_cons_zero, List.set_cons_succ]
  refine wpAnyH_done (by kernel_rfl) ?_ _
  go_wp2_with fail
  go_ret
  exact ⟨rfl, below_step hwW hHeld.1⟩
end Go.Proofs.YtmjkbmkjnbpgeaaGreatDoor
