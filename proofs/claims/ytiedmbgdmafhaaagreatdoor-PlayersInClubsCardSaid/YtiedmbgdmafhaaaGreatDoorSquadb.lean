/- Squad. -/
import Derived.Test.YtiedmbgdmafhaaaGreatDoorSquad
namespace Go.Proofs.YtiedmbgdmafhaaaGreatDoor
open Go.RowKit

def squadE (ps : List PD) (ss : List SD) (club : ByteArray) (week : Int) : Int := firstE [chkSt ps ss, unlessE (keyB club) 5, unlessE (betwB week 1 60) 1]
def squadR (ps : List PD) (ss : List SD) (club : ByteArray) (week : Int) : List ByteArray := if squadE ps ss club week = 0 then thoseL (fun p => beqS (clubB ss p.key week) club) ps else []
def MadeSE (ks : List ByteArray) (x : Int) (w : World) (e : Ending) (w' : World) : Prop := ∃ v, OwnS w' w.heap.size v ks ∧ e = .returned (.tuple #[v, .int .i64 x]) ∧ Below w.heap.size w w'
set_option maxRecDepth 100000 in
set_option maxHeartbeats 2000000 in
theorem squad_calls (lo lo' : Nat) (pv v : Value) (ps : List PD) (ss : List SD) (club : ByteArray) (week : Int) (w : World) (hp : Plays w lo' pv ps) (hps : ∀ p ∈ ps, SmallP p) (hpn : ps.length ≤ 1000000) (hG : Glob w) (hS : Sts w lo v ss) (hss : ∀ s ∈ ss, OkS s) (hsn : ss.length ≤ 1000000) (hcl : club.size ≤ 1000000) :
    Calls Tryz.prog 14 #[pv, v, .string club, .int .i64 week] w (MadeSE (squadR ps ss club week) (squadE ps ss club week) w) := by
  obtain ⟨pa, pc, rfl⟩ := plays_shape hp
  obtain ⟨sa, sc, rfl⟩ := sts_shape hS
  have HE := Lib.hid (show squadE ps ss club week = firstE [chkSt ps ss, unlessE (keyB club) 5, unlessE (betwB week 1 60) 1] from rfl)
  have HR := Lib.hid (show squadR ps ss club week = if squadE ps ss club week = 0 then thoseL (fun p => beqS (clubB ss p.key week) club) ps else [] from rfl)
  generalize squadE ps ss club week = E at HE HR ⊢
  generalize squadR ps ss club week = R at HR ⊢
  obtain ⟨W, hW⟩ : ∃ W, W = ((w.alloc (.cells #[.slice sa ss.length sc] 28)).alloc (.cells #[.string club] 9)).alloc (.cells #[.int .i64 week] 3) := ⟨_, rfl⟩
  have hwW : Below w.heap.size w W := by rw [hW]; exact below_step (below_step (below_alloc w _) (below_alloc _ _)) (below_alloc _ _)
  have x0 : W.cell? ⟨w.heap.size, 0, none⟩ = some (.slice sa ss.length sc) := by rw [hW, World.cell?_alloc_past _ _ _ (by simp; omega), World.cell?_alloc_past _ _ _ (by simp), World.cell?_alloc_at _ _ _ _ rfl]; rfl
  have x1 : W.cell? ⟨w.heap.size + 1, 0, none⟩ = some (.string club) := by rw [hW, World.cell?_alloc_past _ _ _ (by simp), World.cell?_alloc_at _ _ _ _ (by simp)]; rfl
  have x2 : W.cell? ⟨w.heap.size + 2, 0, none⟩ = some (.int .i64 week) := by rw [hW, World.cell?_alloc_at _ _ _ _ (by simp)]; rfl
  have hPW := hp.below hwW
  have hSW := hS.below hwW
  have hGW := hG.below hwW
  have HS := Lib.hid (show ∀ w', Below W.heap.size W w' → (Below W.heap.size W w' ∧ Plays w' lo' (.slice pa ps.length pc) ps ∧ Sts w' lo (.slice sa ss.length sc) ss ∧ Glob w' ∧ w'.cell? ⟨w.heap.size, 0, none⟩ = some (.slice sa ss.length sc) ∧ w'.cell? ⟨w.heap.size + 1, 0, none⟩ = some (.string club) ∧ w'.cell? ⟨w.heap.size + 2, 0, none⟩ = some (.int .i64 week)) from fun w' hb => ⟨hb, hPW.below hb, hSW.below hb, hGW.below hb, below_cell hb x0, below_cell hb x1, below_cell hb x2⟩)
  have hb0 := (Below.refl W.heap.size W).drew
  have HN := Lib.hid hsn
  clear x0 x1 x2 hPW hSW hGW hS hp hG
  go_enter Tryz.func14, Tryz.ntmps14
  go_upto_region 1 with fail
  rw [← hW]
  clear hW
  refine wp_region_held_drew (S := fun w' => Below W.heap.size W w' ∧ Plays w' lo' (.slice pa ps.length pc) ps ∧ Sts w' lo (.slice sa ss.length sc) ss ∧ Glob w' ∧ w'.cell? ⟨w.heap.size, 0, none⟩ = some (.slice sa ss.length sc) ∧ w'.cell? ⟨w.heap.size + 1, 0, none⟩ = some (.string club) ∧ w'.cell? ⟨w.heap.size + 2, 0, none⟩ = some (.int .i64 week)) (by kernel_rfl) ?_ (fun hHeld => ?_)
  · (exact HS.out _ (by first | assumption | exact hHeld.1 | exact below_step hHeld.1 (by assumption) | exact below_step hHeld.1 (below_alloc _ _)))
  refine take_at 0 11 (v := ?_) rfl rfl (by kernel_rfl) (by kernel_rfl) (by kernel_rfl) (fun _ _ _ h => h) (by rfl) ?y0 (by assumption) ?r0
  case y0 =>
    intro w hSw
    try dsimp only at hSw
    go_simp
    try with_reducible rfl
  simp only [List.set_cons_zero, List.set_cons_succ]
  refine take_at 1 12 (v := ?_) rfl rfl (by kernel_rfl) (by kernel_rfl) (by kernel_rfl) (fun _ _ _ h => h) (by rfl) ?y1 (by assumption) ?r1
  case y1 =>
    intro w hSw
    try dsimp only at hSw
    go_simp
    try with_reducible rfl
  simp only [List.set_cons_zero, List.set_cons_succ]
  refine take_at 3 14 (v := ?_) rfl rfl (by kernel_rfl) (by kernel_rfl) (by kernel_rfl) (fun _ _ _ h => h) (by rfl) ?y3 (by assumption) ?r3
  case y3 =>
    intro w hSw
    try dsimp only at hSw
    go_simp
    try with_reducible rfl
  simp only [List.set_cons_zero, List.set_cons_succ]
  refine take_at 6 17 (v := ?_) rfl rfl (by kernel_rfl) (by kernel_rfl) (by kernel_rfl) (fun _ _ _ h => h) (by rfl) ?y6 (by assumption) ?r6
  case y6 =>
    intro w hSw
    try dsimp only at hSw
    go_simp
    try with_reducible rfl
  simp only [List.set_cons_zero, List.set_cons_succ]
  refine run_at 2 rfl (by kernel_rfl) (by rfl) (fun K hK => ?_)
  go_simp
  refine (checkStints_calls lo lo' _ _ ps ss _ (by exact hHeld.2.1) hps hpn (by exact hHeld.2.2.2.1) (by exact hHeld.2.2.1) hss hsn).mono ?_
  rintro e w' ⟨rfl, hb⟩
  go_wp2_with fail
  refine hK.out _ _ ?_ (fun hHeld => ?_)
  · (exact HS.out _ (by first | assumption | exact hHeld.1 | exact below_step hHeld.1 (by assumption) | exact below_step hHeld.1 (below_alloc _ _)))
  clear hK K
  try simp only [Act.put, List.setIfInBounds_toArray, List.set_cons_zero, List.set_cons_succ]
  refine run_at 4 rfl (by kernel_rfl) (by rfl) (fun K hK => ?_)
  go_simp
  refine (key_calls _ _ hcl).mono ?_
  rintro e w' ⟨rfl, rfl⟩
  go_wp2_with fail
  refine hK.out _ _ ?_ (fun hHeld => ?_)
  · (exact HS.out _ (by first | assumption | exact hHeld.1 | exact below_step hHeld.1 (by assumption) | exact below_step hHeld.1 (below_alloc _ _)))
  clear hK K
  try simp only [Act.put, List.setIfInBounds_toArray, List.set_cons_zero, List.set_cons_succ]
  refine run_at 5 rfl (by kernel_rfl) (by rfl) (fun K hK => ?_)
  go_simp
  refine (unless_calls _ _ _).mono ?_
  rintro e w' ⟨rfl, rfl⟩
  go_wp2_with fail
  refine hK.out _ _ ?_ (fun hHeld => ?_)
  · (exact HS.out _ (by first | assumption | exact hHeld.1 | exact below_step hHeld.1 (by assumption) | exact below_step hHeld.1 (below_alloc _ _)))
  clear hK K
  try simp only [Act.put, List.setIfInBounds_toArray, List.set_cons_zero, List.set_cons_succ]
  refine run_at 7 rfl (by kernel_rfl) (by rfl) (fun K hK => ?_)
  go_simp
  refine (week_calls _ _).mono ?_
  rintro e w' ⟨rfl, rfl⟩
  go_wp2_with fail
  refine hK.out _ _ ?_ (fun hHeld => ?_)
  · (exact HS.out _ (by first | assumption | exact hHeld.1 | exact below_step hHeld.1 (by assumption) | exact below_step hHeld.1 (below_alloc _ _)))
  clear hK K
  try simp only [Act.put, List.setIfInBounds_toArray, List.set_cons_zero, List.set_cons_succ]
  refine run_at 8 rfl (by kernel_rfl) (by rfl) (fun K hK => ?_)
  go_simp
  refine (unless_calls _ _ _).mono ?_
  rintro e w' ⟨rfl, rfl⟩
  go_wp2_with fail
  refine hK.out _ _ ?_ (fun hHeld => ?_)
  · (exact HS.out _ (by first | assumption | exact hHeld.1 | exact below_step hHeld.1 (by assumption) | exact below_step hHeld.1 (below_alloc _ _)))
  clear hK K
  try simp only [Act.put, List.setIfInBounds_toArray, List.set_cons_zero, List.set_cons_succ]
  refine run_at 9 rfl (by kernel_rfl) (by rfl) (fun K hK => ?_)
  go_simp
  refine hK.out _ _ ?_ (fun hHeld => ?_)
  · (exact HS.out _ (by first | assumption | exact hHeld.1 | exact below_step hHeld.1 (by assumption) | exact below_step hHeld.1 (below_alloc _ _)))
  clear hK K
  try simp only [Act.put, List.setIfInBounds_toArray, List.set_cons_zero, List.set_cons_succ]
  refine run_at 10 rfl (by kernel_rfl) (by rfl) (fun K hK => ?_)
  go_simp
  refine (orE_calls _ 0 3 [chkSt ps ss, unlessE (keyB club) 5, unlessE (betwB week 1 60) 1] _ (by simp) (by exact nums3 _ _ _ _ _)).mono ?_
  rintro e w' ⟨rfl, rfl⟩
  go_wp2_with fail
  refine hK.out _ _ ?_ (fun hHeld => ?_)
  · (exact HS.out _ (by first | assumption | exact hHeld.1 | exact below_step hHeld.1 (by assumption) | exact below_step hHeld.1 (below_alloc _ _)))
  clear hK K
  try simp only [Act.put, List.setIfInBounds_toArray, List.set_cons_zero, List.set_cons_succ]
  refine take_at 11 10 (v := ?_) rfl rfl (by kernel_rfl) (by kernel_rfl) (by kernel_rfl) (fun _ _ _ h => h) (by rfl) ?y11 (by assumption) ?r11
  case y11 =>
    intro w hSw
    try dsimp only at hSw
    go_simp
    try with_reducible rfl
  simp only [List.set_cons_zero, List.set_cons_succ]
  refine wpAnyH_done (by kernel_rfl) ?_ _
  rw [← HE.out]
  generalize w'.alloc (.cells #[.int .i64 (chkSt ps ss), .int .i64 (unlessE (keyB club) 5), .int .i64 (unlessE (betwB week 1 60) 1)] 32) = W9 at hHeld ⊢
  obtain ⟨hb, hP, hSt, _, x0, x1, x2⟩ := hHeld
  have hbw := below_step hwW hb
  by_cases hz : E = 0
  · have e1 : (E != 0) = false := by simp [hz]
    have Hz := Lib.hid hz
    have HC := Lib.hid (⟨hbw, hSt, x0, x1, x2⟩ : Below w.heap.size w W9 ∧ Sts W9 lo (.slice sa ss.length sc) ss ∧ W9.cell? ⟨w.heap.size, 0, none⟩ = some (.slice sa ss.length sc) ∧ W9.cell? ⟨w.heap.size + 1, 0, none⟩ = some (.string club) ∧ W9.cell? ⟨w.heap.size + 2, 0, none⟩ = some (.int .i64 week))
    clear hz hb hbw hSt x0 x1 x2
    go_wp2_with fail
    refine (those_calls 88 _ (enters_of Tryz.func88 (by kernel_rfl) rfl) (fun p => beqS (clubB ss p.key week) club) lo' _ ps _ hP (fun W' i p x hi hb' hx => ?s1)).mono ?_
    case s1 =>
      obtain ⟨_, hSt, x0, x1, x2⟩ := HC.out
      exact squad1_calls _ _ _ lo p.key club week _ _ _ ss W' (hSt.below hb') HN.out (below_cell hb' x0) (below_cell hb' x2) (below_cell hb' x1)
    rintro e w4 ⟨v4, ho, rfl, hb4⟩
    go_wp2_with fail
    go_ret2
    refine ⟨v4, ?_, ?_, below_step HC.out.1 hb4⟩
    · rw [HR.out, if_pos Hz.out]; exact owns_mono ho HC.out.1.size
    · rw [Hz.out]; rfl
  · have e1 : (E != 0) = true := by simp [hz]
    have Hz := Lib.hid hz
    clear hz
    go_wp2_with fail
    go_ret2
    refine ⟨.slice none 0 0, ?_, rfl, hbw⟩
    rw [HR.out, if_neg Hz.out]
    exact World.ownsRow_nil _ _ _ _
end Go.Proofs.YtiedmbgdmafhaaaGreatDoor
