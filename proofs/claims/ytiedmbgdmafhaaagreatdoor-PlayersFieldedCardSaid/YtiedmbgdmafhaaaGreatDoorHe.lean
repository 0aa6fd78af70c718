/- CheckHealth. StateIn. -/
import Derived.Test.YtiedmbgdmafhaaaGreatDoorHdi
import Derived.Test.YtiedmbgdmafhaaaGreatDoorBh
namespace Go.Proofs.YtiedmbgdmafhaaaGreatDoor
open Go.RowKit

def chkHd (ps : List PD) (hs : List HD) : Int := firstE [chkPs ps, eachE hs.length 1000 (hdF ps hs)]
set_option maxRecDepth 100000 in
set_option maxHeartbeats 2000000 in
theorem checkHealth_calls (lo lo' : Nat) (pv v : Value) (ps : List PD) (ss : List HD) (w : World) (hp : Plays w lo' pv ps) (hps : ∀ p ∈ ps, SmallP p) (hpn : ps.length ≤ 1000000) (hG : Glob w) (hS : Hds w lo v ss) (hsn : ss.length ≤ 1000000) :
    Calls Tryz.prog 39 #[pv, v] w (IntBelow (chkHd ps ss) w) := by
  obtain ⟨pa, pc, rfl⟩ := plays_shape hp
  obtain ⟨sa, sc, rfl⟩ := hds_shape hS
  obtain ⟨W, hW⟩ : ∃ W, W = (w.alloc (.cells #[.slice pa ps.length pc] 26)).alloc (.cells #[.slice sa ss.length sc] 49) := ⟨_, rfl⟩
  have hwW : Below w.heap.size w W := by rw [hW]; exact below2 w _ _
  have x0 : W.cell? ⟨w.heap.size, 0, none⟩ = some (.slice pa ps.length pc) := by rw [hW]; exact two_cell0 w _ _ _ _
  have x1 : W.cell? ⟨w.heap.size + 1, 0, none⟩ = some (.slice sa ss.length sc) := by rw [hW]; exact two_cell1 w _ _ _ _
  have hpW := hp.below hwW
  have hSW := hS.below hwW
  have hGW := hG.below hwW
  have HS := Lib.hid (show ∀ w', Below W.heap.size W w' → (Below W.heap.size W w' ∧ Glob w' ∧ Plays w' lo' (.slice pa ps.length pc) ps ∧ Hds w' lo (.slice sa ss.length sc) ss ∧ w'.cell? ⟨w.heap.size, 0, none⟩ = some (.slice pa ps.length pc) ∧ w'.cell? ⟨w.heap.size + 1, 0, none⟩ = some (.slice sa ss.length sc)) from fun w' hb => ⟨hb, hGW.below hb, hpW.below hb, hSW.below hb, below_cell hb x0, below_cell hb x1⟩)
  have hf : ∀ (X W2 : World) (i : Nat), Below W.heap.size W X → i < ss.length → Below X.heap.size X W2 → Calls Tryz.prog 116 (#[.int .i64 (i : Int)] ++ #[.pointer (some ⟨w.heap.size + 1, 0, none⟩), .pointer (some ⟨w.heap.size, 0, none⟩)]) W2 (IntBelow (hdF ps ss i) W2) := by
    intro X W2 i hX hi hb
    obtain ⟨_, _, hp2, hS2, y0, y1⟩ := HS.out W2 (below_step hX hb)
    obtain ⟨s, hsi⟩ : ∃ s, ss[i]? = some s := ⟨ss[i], List.getElem?_eq_getElem hi⟩
    rcases hds_at hS2 with ⟨_, rfl⟩ | ⟨g, off, cap, e, _⟩
    · simp at hi
    · rw [e] at hS2 y1
      exact checkHealth1_calls (w.heap.size + 1) w.heap.size g off cap i lo lo' pa pc ps ss s W2 hsi hsn y1 y0 hS2 hp2
  have Hf := Lib.hid hf
  have hb0 := (Below.refl W.heap.size W).drew
  clear hf x0 x1 hpW hSW hGW hp hS hG
  go_enter Tryz.func39, Tryz.ntmps39
  go_upto_region 1 with fail
  rw [← hW]
  clear hW
  refine wp_region_held_drew (S := fun w' => Below W.heap.size W w' ∧ Glob w' ∧ Plays w' lo' (.slice pa ps.length pc) ps ∧ Hds w' lo (.slice sa ss.length sc) ss ∧ w'.cell? ⟨w.heap.size, 0, none⟩ = some (.slice pa ps.length pc) ∧ w'.cell? ⟨w.heap.size + 1, 0, none⟩ = some (.slice sa ss.length sc)) (by kernel_rfl) ?_ (fun hHeld => ?_)
  · (exact HS.out _ (by first | assumption | exact hHeld.1 | exact below_step hHeld.1 (by assumption) | exact below_step hHeld.1 (below_alloc _ _)))
  refine take_at 0 5 (v := ?_) rfl rfl (by kernel_rfl) (by kernel_rfl) (by kernel_rfl) (fun _ _ _ h => h) (by rfl) ?y0 (by assumption) ?r0
  case y0 =>
    intro w hSw
    try dsimp only at hSw
    go_simp
    try with_reducible rfl
  simp only [List.set_cons_zero, List.set_cons_succ]
  refine take_at 2 7 (v := ?_) rfl rfl (by kernel_rfl) (by kernel_rfl) (by kernel_rfl) (fun _ _ _ h => h) (by rfl) ?y2 (by assumption) ?r2
  case y2 =>
    intro w hSw
    try dsimp only at hSw
    go_simp
    try with_reducible rfl
  simp only [List.set_cons_zero, List.set_cons_succ]
  refine take_at 3 8 (v := ?_) rfl rfl (by kernel_rfl) (by kernel_rfl) (by kernel_rfl) (fun _ _ _ h => h) (by rfl) ?y3 (by assumption) ?r3
  case y3 =>
    intro w hSw
    try dsimp only at hSw
    go_simp
    try with_reducible rfl
  simp only [List.set_cons_zero, List.set_cons_succ]
  refine take_at 4 9 (v := ?_) rfl rfl (by kernel_rfl) (by kernel_rfl) (by kernel_rfl) (fun _ _ _ h => h) (by rfl) ?y4 (by assumption) ?r4
  case y4 =>
    intro w hSw
    try dsimp only at hSw
    go_simp
    try with_reducible rfl
  simp only [List.set_cons_zero, List.set_cons_succ]
  refine run_at 1 rfl (by kernel_rfl) (by rfl) (fun K hK => ?_)
  go_simp
  refine (checkPlayers_calls lo' _ ps _ (by exact hHeld.2.2.1) hps hpn (by exact hHeld.2.1)).mono ?_
  rintro e w' ⟨rfl, hb⟩
  go_wp2_with fail
  refine hK.out _ _ ?_ (fun hHeld => ?_)
  · (exact HS.out _ (by first | assumption | exact hHeld.1 | exact below_step hHeld.1 (by assumption) | exact below_step hHeld.1 (below_alloc _ _)))
  clear hK K
  try simp only [Act.put, List.setIfInBounds_toArray, List.set_cons_zero, List.set_cons_succ]
  refine run_at 5 rfl (by kernel_rfl) (by rfl) (fun K hK => ?_)
  go_simp
  refine (each_calls 116 #[.pointer (some ⟨w.heap.size + 1, 0, none⟩), .pointer (some ⟨w.heap.size, 0, none⟩)] (enters_of Tryz.func116 (by kernel_rfl) rfl) (hdF ps ss) ss.length 1000 _ hsn (by exact fun W2 i hi hb => Hf.out _ W2 i hHeld.1 hi hb)).mono ?_
  rintro e w' ⟨rfl, hb⟩
  go_wp2_with fail
  refine hK.out _ _ ?_ (fun hHeld => ?_)
  · (exact HS.out _ (by first | assumption | exact hHeld.1 | exact below_step hHeld.1 (by assumption) | exact below_step hHeld.1 (below_alloc _ _)))
  clear hK K
  try simp only [Act.put, List.setIfInBounds_toArray, List.set_cons_zero, List.set_cons_succ]
  refine run_at 6 rfl (by kernel_rfl) (by rfl) (fun K hK => ?_)
  go_simp
  refine hK.out _ _ ?_ (fun hHeld => ?_)
  · (exact HS.out _ (by first | assumption | exact hHeld.1 | exact below_step hHeld.1 (by assumption) | exact below_step hHeld.1 (below_alloc _ _)))
  clear hK K
  try simp only [Act.put, List.setIfInBounds_toArray, List.set_cons_zero, List.set_cons_succ]
  refine run_at 7 rfl (by kernel_rfl) (by rfl) (fun K hK => ?_)
  go_simp
  refine (orE_calls _ 0 2 [chkPs ps, eachE ss.length 1000 (hdF ps ss)] _ (by simp) (by exact nums2 _ _ _ _)).mono ?_
  rintro e w' ⟨rfl, rfl⟩
  go_wp2_with fail
  refine hK.out _ _ ?_ (fun hHeld => ?_)
  · (exact HS.out _ (by first | assumption | exact hHeld.1 | exact below_step hHeld.1 (by assumption) | exact below_step hHeld.1 (below_alloc _ _)))
  clear hK K
  try simp only [Act.put, List.setIfInBounds_toArray, List.set_cons_zero, List.set_cons_succ]
  refine take_at 8 4 (v := ?_) rfl rfl (by kernel_rfl) (by kernel_rfl) (by kernel_rfl) (fun _ _ _ h => h) (by rfl) ?y8 (by assumption) ?r8
  case y8 =>
    intro w hSw
    try dsimp only at hSw
    go_simp
    try with_reducible rfl
  simp only [List.set_cons_zero, List.set_cons_succ]
  refine wpAnyH_done (by kernel_rfl) ?_ _
  go_wp2_with fail
  go_ret
  exact ⟨rfl, below_step hwW hHeld.1⟩
end Go.Proofs.YtiedmbgdmafhaaaGreatDoor
namespace Go.Proofs.YtiedmbgdmafhaaaGreatDoor
open Go.RowKit

def stateE (ps : List PD) (hs : List HD) (who : ByteArray) (week : Int) : Int := firstE [chkHd ps hs, unlessE (knownB ps who) 8, unlessE (betwB week 1 60) 1]
def stateR (ps : List PD) (hs : List HD) (who : ByteArray) (week : Int) : Int := if stateE ps hs who week = 0 then stateB hs who week else 0
set_option maxRecDepth 100000 in
set_option maxHeartbeats 1000000 in
theorem stateInX_calls (lo lo' : Nat) (pv v : Value) (ps : List PD) (ss : List HD) (who : ByteArray) (week : Int) (w : World) (hp : Plays w lo' pv ps) (hps : ∀ p ∈ ps, SmallP p) (hpn : ps.length ≤ 1000000) (hG : Glob w) (hS : Hds w lo v ss) (hsn : ss.length ≤ 1000000) :
    Calls Tryz.prog 30 #[pv, v, .string who, .int .i64 week] w fun e w' => e = .returned (.tuple #[.int .i64 (stateR ps ss who week), .int .i64 (stateE ps ss who week)]) ∧ Below w.heap.size w w' := by
  obtain ⟨pa, pc, rfl⟩ := plays_shape hp
  obtain ⟨sa, sc, rfl⟩ := hds_shape hS
  have HE := Lib.hid (show stateE ps ss who week = firstE [chkHd ps ss, unlessE (knownB ps who) 8, unlessE (betwB week 1 60) 1] from rfl)
  have HR := Lib.hid (show stateR ps ss who week = if stateE ps ss who week = 0 then stateB ss who week else 0 from rfl)
  generalize stateE ps ss who week = E at HE HR
  go_enter Tryz.func30, Tryz.ntmps30
  go_wp2_with fail
  refine (checkHealth_calls lo lo' _ _ ps ss w hp hps hpn hG hS hsn).mono ?_
  rintro e w1 ⟨rfl, hb1⟩
  go_wp2_with fail
  refine (known_calls lo' who _ ps w1 (hp.below hb1)).mono ?_
  rintro e w2 ⟨rfl, hb2⟩
  have hS2 := (hS.below hb1).below hb2
  have hb12 := below_step hb1 hb2
  clear hp hS hb1 hb2
  go_wp2_with fail
  refine (unless_calls _ _ _).mono ?_
  rintro e w' ⟨rfl, rfl⟩
  go_wp2_with fail
  refine (week_calls _ _).mono ?_
  rintro e w' ⟨rfl, rfl⟩
  go_wp2_with fail
  refine (unless_calls _ _ _).mono ?_
  rintro e w' ⟨rfl, rfl⟩
  go_wp2_with fail
  refine (orE_calls _ 0 3 [chkHd ps ss, unlessE (knownB ps who) 8, unlessE (betwB week 1 60) 1] _ (by simp) (by exact nums3 _ _ _ _ _)).mono ?_
  rintro e w3 ⟨rfl, hw3⟩
  rw [← HE.out]
  have hS3 := hS2.below (below_alloc w2 (.cells #[.int .i64 (chkHd ps ss), .int .i64 (unlessE (knownB ps who) 8), .int .i64 (unlessE (betwB week 1 60) 1)] 32))
  have hb3 := below_step hb12 (below_alloc w2 (.cells #[.int .i64 (chkHd ps ss), .int .i64 (unlessE (knownB ps who) 8), .int .i64 (unlessE (betwB week 1 60) 1)] 32))
  rw [hw3] at hS3 hb3
  clear hw3 hS2 hb12
  by_cases hz : E = 0
  · have e1 : (E != 0) = false := by simp [hz]
    have Hz := Lib.hid hz
    clear hz
    go_wp2_with fail
    refine (stateIn_calls lo who week _ ss w3 hS3 hsn).mono ?_
    rintro e w4 ⟨rfl, hb4⟩
    go_wp2_with fail
    go_ret2
    refine ⟨?_, below_step hb3 hb4⟩
    rw [HR.out, if_pos Hz.out, Hz.out]
    rfl
  · have e1 : (E != 0) = true := by simp [hz]
    have Hz := Lib.hid hz
    clear hz
    go_wp2_with fail
    go_ret2
    refine ⟨?_, hb3⟩
    rw [HR.out, if_neg Hz.out]
    rfl
end Go.Proofs.YtiedmbgdmafhaaaGreatDoor
