/- Walks of what picks out the stints of some players: slices.DeleteFunc and the closures handed to it. -/
import Derived.Test.YtiedmbgdmafhaaaGreatDoorGen
import Derived.Test.YtiedmbgdmafhaaaGreatDoorIdx
import Derived.Deep.RegionHeld3
import Derived.Deep.RegionWith
import Derived.Test.YtiedmbgdmafhaaaGreatDoorReg
namespace Go.Proofs.YtiedmbgdmafhaaaGreatDoor
open Go.RowKit

/-- A stint. -/
structure SD where
  player : ByteArray
  club : ByteArray
  week : Int
def stRow (s : SD) : List Value := [.string s.player, .string s.club, .int .i64 s.week]
/-- A slice of stints. -/
def Sts (w : World) (lo : Nat) (v : Value) (ss : List SD) : Prop := Rows w 110 lo 3 v (ss.map stRow)
def K_zed : ByteArray := ⟨#[122, 101, 100]⟩

set_option maxRecDepth 100000 in
set_option maxHeartbeats 400000 in
theorem who_calls (a b c : Value) (w : World) :
    Calls Tryz.prog 80 #[.agg #[a, b, c]] w fun e w' => e = .returned a ∧ Below w.heap.size w w' := by
  go_enter Tryz.func80, Tryz.ntmps80
  go_wp2_with fail
  go_ret
  exact ⟨rfl, below_alloc w _⟩

theorem below_step {W0 a b : World} (h : Below W0.heap.size W0 a) (k : Below a.heap.size a b) : Below W0.heap.size W0 b := h.trans (k.mono h.size)
/-- A bool, and new memory alone. -/
def BoolBelow (w : World) (e : Ending) (w' : World) : Prop := ∃ b : Bool, e = .returned (.bool b) ∧ Below w.heap.size w w'

set_option maxRecDepth 100000 in
set_option maxHeartbeats 1000000 in
theorem del_calls (cp cw lo : Nat) (s : SD) (v : Value) (ps : List PD) (w : World) (hp : Plays w lo v ps) (h1 : w.cell? ⟨cp, 0, none⟩ = some v) (h2 : w.cell? ⟨cw, 0, none⟩ = some (.func (.func 80) #[] #[])) :
    Calls Tryz.prog 177 #[.agg #[.string s.player, .string s.club, .int .i64 s.week], .pointer (some ⟨cp, 0, none⟩), .pointer (some ⟨cw, 0, none⟩)] w (BoolBelow w) := by
  obtain ⟨a, c, rfl⟩ : ∃ a c, v = .slice a ps.length c := by
    rcases plays_at hp with ⟨rfl, rfl⟩ | ⟨g, off, cap, rfl, _⟩
    · exact ⟨none, 0, rfl⟩
    · exact ⟨_, _, rfl⟩
  obtain ⟨W1, hW1⟩ : ∃ W1, W1 = w.alloc (.cells #[.string s.player, .string s.club, .int .i64 s.week] 110) := ⟨_, rfl⟩
  have k1 : W1.cell? ⟨cp, 0, none⟩ = some (.slice a ps.length c) := by rw [hW1]; exact below_cell (below_alloc w _) h1
  have k2 : W1.cell? ⟨cw, 0, none⟩ = some (.func (.func 80) #[] #[]) := by rw [hW1]; exact below_cell (below_alloc w _) h2
  have k3 : W1.cell? ⟨w.heap.size, 0, none⟩ = some (.string s.player) := by rw [hW1, World.cell?_alloc_at _ _ _ _ rfl]; rfl
  have k4 : W1.cell? ⟨w.heap.size, 1, none⟩ = some (.string s.club) := by rw [hW1, World.cell?_alloc_at _ _ _ _ rfl]; rfl
  have k5 : W1.cell? ⟨w.heap.size, 2, none⟩ = some (.int .i64 s.week) := by rw [hW1, World.cell?_alloc_at _ _ _ _ rfl]; rfl
  have hp1 : Plays W1 lo (.slice a ps.length c) ps := by rw [hW1]; exact hp.below (below_alloc w _)
  have hbW : Below w.heap.size w W1 := by rw [hW1]; exact below_alloc w _
  have hS : ∀ w', Below W1.heap.size W1 w' → Below W1.heap.size W1 w' ∧ Plays w' lo (.slice a ps.length c) ps ∧ w'.cell? ⟨cp, 0, none⟩ = some (.slice a ps.length c) ∧ w'.cell? ⟨cw, 0, none⟩ = some (.func (.func 80) #[] #[]) ∧ w'.cell? ⟨w.heap.size, 0, none⟩ = some (.string s.player) ∧ w'.cell? ⟨w.heap.size, 1, none⟩ = some (.string s.club) ∧ w'.cell? ⟨w.heap.size, 2, none⟩ = some (.int .i64 s.week) := fun w' hb =>
    ⟨hb, hp1.below hb, below_cell hb k1, below_cell hb k2, below_cell hb k3, below_cell hb k4, below_cell hb k5⟩
  have HS := Lib.hid hS
  have hb0 := (Below.refl W1.heap.size W1).drew
  clear hp h1 h2 hS
  cases hh : hasP ps s.player
  · have Hh := Lib.hid hh
    clear hh
    go_enter Tryz.func177, Tryz.ntmps177
    go_wp2_with fail
    rw [← hW1]
    clear hW1
    go_region_held3 (fun w' => Below W1.heap.size W1 w' ∧ Plays w' lo (.slice a ps.length c) ps ∧ w'.cell? ⟨cp, 0, none⟩ = some (.slice a ps.length c) ∧ w'.cell? ⟨cw, 0, none⟩ = some (.func (.func 80) #[] #[]) ∧ w'.cell? ⟨w.heap.size, 0, none⟩ = some (.string s.player) ∧ w'.cell? ⟨w.heap.size, 1, none⟩ = some (.string s.club) ∧ w'.cell? ⟨w.heap.size, 2, none⟩ = some (.int .i64 s.week)) (exact HS.out _ (by assumption)) (first | (go_at_call 80; refine (who_calls _ _ _ _).mono ?_; rintro e w' ⟨rfl, hb⟩; have hbb := below_step (W0 := W1) (by assumption) hb; clear hb) | (go_at_call 93; refine (playerAt_no lo _ _ _ _ (HS.out _ (by assumption)).2.1 Hh.out).mono ?_; rintro e w' ⟨rfl, hb⟩; have hbb := below_step (W0 := W1) (by assumption) hb; clear hb))
    all_goals (go_wp2_with fail; go_ret; exact ⟨_, rfl, below_step hbW (by assumption)⟩)
  · have Hh := Lib.hid hh
    clear hh
    go_enter Tryz.func177, Tryz.ntmps177
    go_wp2_with fail
    rw [← hW1]
    clear hW1
    refine wp_region_held_drew (S := fun w' => Below W1.heap.size W1 w' ∧ Plays w' lo (.slice a ps.length c) ps ∧ w'.cell? ⟨cp, 0, none⟩ = some (.slice a ps.length c) ∧ w'.cell? ⟨cw, 0, none⟩ = some (.func (.func 80) #[] #[]) ∧ w'.cell? ⟨w.heap.size, 0, none⟩ = some (.string s.player) ∧ w'.cell? ⟨w.heap.size, 1, none⟩ = some (.string s.club) ∧ w'.cell? ⟨w.heap.size, 2, none⟩ = some (.int .i64 s.week)) (by kernel_rfl) ?_ (fun hHeld => ?_)
    · (exact HS.out _ (by assumption))
    refine take_at 0 5 (v := ?_) rfl rfl (by kernel_rfl) (by kernel_rfl) (by kernel_rfl) (fun _ _ _ h => h) (by rfl) ?y0 (by assumption) ?r0
    case y0 =>
      intro w hSw
      try dsimp only at hSw
      go_simp
      try with_reducible rfl
    simp only [List.set_cons_zero, List.set_cons_succ]
    refine take_at 1 6 (v := ?_) rfl rfl (by kernel_rfl) (by kernel_rfl) (by kernel_rfl) (fun _ _ _ h => h) (by rfl) ?y1 (by assumption) ?r1
    case y1 =>
      intro w hSw
      try dsimp only at hSw
      go_simp
      try with_reducible rfl
    simp only [List.set_cons_zero, List.set_cons_succ]
    refine take_at 2 7 (v := ?_) rfl rfl (by kernel_rfl) (by kernel_rfl) (by kernel_rfl) (fun _ _ _ h => h) (by rfl) ?y2 (by assumption) ?r2
    case y2 =>
      intro w hSw
      try dsimp only at hSw
      go_simp
      try with_reducible rfl
    simp only [List.set_cons_zero, List.set_cons_succ]
    refine run_at 3 rfl (by kernel_rfl) (by rfl) (fun K hK => ?_)
    go_simp
    refine (who_calls _ _ _ _).mono ?_
    rintro e w' ⟨rfl, hb⟩
    have hbb := below_step (W0 := W1) (by assumption) hb
    clear hb
    go_wp2_with fail
    refine hK.out _ _ ?_ (fun hHeld => ?_)
    · (exact HS.out _ (by assumption))
    clear hK K
    try simp only [Act.put, List.setIfInBounds_toArray, List.set_cons_zero, List.set_cons_succ]
    refine run_at 4 rfl (by kernel_rfl) (by rfl) (fun K hK => ?_)
    go_simp
    refine (playerAt_yes lo _ _ _ _ (HS.out _ (by assumption)).2.1 Hh.out).mono ?_
    rintro e w' ⟨r, rfl, hb⟩
    have hd : decide ((r : Int) < 0) = false := decide_eq_false (by omega)
    have hbb := below_step (W0 := W1) (by assumption) hb
    clear hb
    go_wp2_with fail
    refine hK.out _ _ ?_ (fun hHeld => ?_)
    · (exact HS.out _ (by assumption))
    clear hK K
    try simp only [Act.put, List.setIfInBounds_toArray, List.set_cons_zero, List.set_cons_succ]
    refine take_at 5 10 (v := ?_) rfl rfl (by kernel_rfl) (by kernel_rfl) (by kernel_rfl) (fun _ _ _ h => h) (by rfl) ?y5 (by assumption) ?r5
    case y5 =>
      intro w hSw
      try dsimp only at hSw
      go_simp
      try with_reducible rfl
    simp only [List.set_cons_zero, List.set_cons_succ]
    refine take_at 6 11 (v := ?_) rfl rfl (by kernel_rfl) (by kernel_rfl) (by kernel_rfl) (fun _ _ _ h => h) (by rfl) ?y6 (by assumption) ?r6
    case y6 =>
      intro w hSw
      try dsimp only at hSw
      go_simp
      try with_reducible rfl
    simp only [List.set_cons_zero, List.set_cons_succ]
    refine skip_at 7 12 rfl rfl (by kernel_rfl) (by kernel_rfl) (by kernel_rfl) (fun _ _ _ h => h) (by rfl) (by assumption) ?_
    simp only [List.set_cons_zero, List.set_cons_succ]
    refine skip_at 8 13 rfl rfl (by kernel_rfl) (by kernel_rfl) (by kernel_rfl) (fun _ _ _ h => h) (by rfl) (by assumption) ?_
    simp only [List.set_cons_zero, List.set_cons_succ]
    refine skip_at 9 14 rfl rfl (by kernel_rfl) (by kernel_rfl) (by kernel_rfl) (fun _ _ _ h => h) (by rfl) (by assumption) ?_
    simp only [List.set_cons_zero, List.set_cons_succ]
    refine skip_at 10 15 rfl rfl (by kernel_rfl) (by kernel_rfl) (by kernel_rfl) (fun _ _ _ h => h) (by rfl) (by assumption) ?_
    simp only [List.set_cons_zero, List.set_cons_succ]
    refine take_at 11 16 (v := ?_) rfl rfl (by kernel_rfl) (by kernel_rfl) (by kernel_rfl) (fun _ _ _ h => h) (by rfl) ?y11 (by assumption) ?r11
    case y11 =>
      intro w hSw
      try dsimp only at hSw
      go_simp
      try with_reducible rfl
    simp only [List.set_cons_zero, List.set_cons_succ]
    refine take_at 12 4 (v := ?_) rfl rfl (by kernel_rfl) (by kernel_rfl) (by kernel_rfl) (fun _ _ _ h => h) (by rfl) ?y12 (by assumption) ?r12
    case y12 =>
      intro w hSw
      try dsimp only at hSw
      go_simp
      try with_reducible rfl
    simp only [List.set_cons_zero, List.set_cons_succ]
    refine wpAnyH_done (by kernel_rfl) ?_ _
    all_goals (go_wp2_with fail; go_ret; exact ⟨_, rfl, below_step hbW (by assumption)⟩)
end Go.Proofs.YtiedmbgdmafhaaaGreatDoor
