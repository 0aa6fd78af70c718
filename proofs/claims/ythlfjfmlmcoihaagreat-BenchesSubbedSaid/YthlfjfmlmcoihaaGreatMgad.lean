/- Fractions on the reference's side. -/
import Derived.Test.YthlfjfmlmcoihaaGreatMgac
import Derived.Test.YthlfjfmlmcoihaaGreatMgab
import Derived.IntWalk
import Derived.Deep.Cut
import Derived.Laws.ResultCell
import Derived.OwnWalk
/- check.Rising: keys that rise. -/
namespace Go.Proofs.YthlfjfmlmcoihaaGreat
open Go.RowKit

/-- String i of some. -/
def strAt (ks : List ByteArray) (i : Nat) : ByteArray := ks[i]?.getD ByteArray.empty
theorem strAt_some {ks : List ByteArray} {i : Nat} {k : ByteArray} (h : ks[i]? = some k) : strAt ks i = k := by simp [strAt, h]
/-- What is wrong with key i. -/
def risF (ks : List ByteArray) (i : Nat) : Int := firstE [unlessE (keyB (strAt ks i)) 5, unlessE (decide (i = 0) || ltS (strAt ks (i - 1)) (strAt ks i)) 7]
theorem below_step {W0 a b : World} (h : Below W0.heap.size W0 a) (k : Below a.heap.size a b) : Below W0.heap.size W0 b := h.trans (k.mono h.size)
theorem nums2 (w : World) (T : Nat) (a b : Int) : NumsAt (w.alloc (.cells #[.int .i64 a, .int .i64 b] T)) w.heap.size 0 [a, b] := by
  intro i x hx
  rw [World.cell?_alloc_at _ _ _ _ rfl]
  match i, hx with
  | 0, hx => simp at hx; subst hx; rfl
  | 1, hx => simp at hx; subst hx; rfl

set_option maxRecDepth 100000 in
set_option maxHeartbeats 2000000 in
theorem rising1_calls (c g off cap i : Nat) (ks : List ByteArray) (k : ByteArray) (W : World) (hi : ks[i]? = some k) (hk40 : k.size ≤ 1000000) (hn : ks.length ≤ 1000000)
    (h1 : W.cell? ⟨c, 0, none⟩ = some (.slice (some ⟨g, off, none⟩) ks.length cap)) (hc : ∀ (i : Nat) (k : ByteArray), ks[i]? = some k → W.cell? ⟨g, off + i, none⟩ = some (.string k)) :
    Calls Tryz.prog 146 #[.int .i64 (i : Int), .pointer (some ⟨c, 0, none⟩)] W (IntBelow (risF ks i) W) := by
  have hlt : i < ks.length := (List.getElem?_eq_some_iff.1 hi).1
  have g0 := hc i k hi
  have hbW := (Below.refl W.heap.size W).drew
  by_cases hz : i = 0
  · have Hr := Lib.hid (show risF ks i = firstE [unlessE (keyB k) 5, unlessE true 7] by rw [risF, strAt_some hi, hz]; rfl)
    have HS : ∀ w', Below W.heap.size W w' → (Below W.heap.size W w' ∧ w'.cell? ⟨c, 0, none⟩ = some (.slice (some ⟨g, off, none⟩) ks.length cap) ∧ w'.cell? ⟨g, off + i, none⟩ = some (.string k)) := fun w' hb => ⟨hb, below_cell hb h1, below_cell hb g0⟩
    have e0 : ((i : Int) == 0) = true := by rw [beq_iff_eq]; omega
    have HS := Lib.hid HS
    clear hz hc hi h1 g0
    go_enter Tryz.func146, Tryz.ntmps146
    go_wp2_with fail
    refine wp_region_held_drew (S := fun w' => Below W.heap.size W w' ∧ w'.cell? ⟨c, 0, none⟩ = some (.slice (some ⟨g, off, none⟩) ks.length cap) ∧ w'.cell? ⟨g, off + i, none⟩ = some (.string k)) (by kernel_rfl) ?_ (fun hHeld => ?_)
    · (exact HS.out _ (by first | assumption | exact hHeld.1 | exact below_step hHeld.1 (below_alloc _ _)))
    refine take_at 0 4 (v := ?_) rfl rfl (by kernel_rfl) (by kernel_rfl) (by kernel_rfl) (fun _ _ _ h => h) (by rfl) ?y0 (by assumption) ?r0
    case y0 =>
      intro w hSw
      try dsimp only at hSw
      go_simp
      try with_reducible rfl
    simp only [List.set_cons_zero, List.set_cons_succ]
    refine take_at 1 5 (v := ?_) rfl rfl (by kernel_rfl) (by kernel_rfl) (by kernel_rfl) (fun _ _ _ h => h) (by rfl) ?y1 (by assumption) ?r1
    case y1 =>
      intro w hSw
      try dsimp only at hSw
      go_simp
      try with_reducible rfl
    simp only [List.set_cons_zero, List.set_cons_succ]
    refine take_at 2 6 (v := ?_) rfl rfl (by kernel_rfl) (by kernel_rfl) (by kernel_rfl) (fun _ _ _ h => h) (by rfl) ?y2 (by assumption) ?r2
    case y2 =>
      intro w hSw
      try dsimp only at hSw
      go_simp
      try with_reducible rfl
    simp only [List.set_cons_zero, List.set_cons_succ]
    refine take_at 3 7 (v := ?_) rfl rfl (by kernel_rfl) (by kernel_rfl) (by kernel_rfl) (fun _ _ _ h => h) (by rfl) ?y3 (by assumption) ?r3
    case y3 =>
      intro w hSw
      try dsimp only at hSw
      go_simp
      try with_reducible rfl
    simp only [List.set_cons_zero, List.set_cons_succ]
    refine take_at 6 10 (v := ?_) rfl rfl (by kernel_rfl) (by kernel_rfl) (by kernel_rfl) (fun _ _ _ h => h) (by rfl) ?y6 (by assumption) ?r6
    case y6 =>
      intro w hSw
      try dsimp only at hSw
      go_simp
      try with_reducible rfl
    simp only [List.set_cons_zero, List.set_cons_succ]
    refine take_at 7 11 (v := ?_) rfl rfl (by kernel_rfl) (by kernel_rfl) (by kernel_rfl) (fun _ _ _ h => h) (by rfl) ?y7 (by assumption) ?r7
    case y7 =>
      intro w hSw
      try dsimp only at hSw
      go_simp
      try with_reducible rfl
    simp only [List.set_cons_zero, List.set_cons_succ]
    refine run_at 4 rfl (by kernel_rfl) (by rfl) (fun K hK => ?_)
    go_simp
    refine (key_calls k _ hk40).mono ?_
    rintro e w' ⟨rfl, rfl⟩
    go_wp2_with fail
    refine hK.out _ _ ?_ (fun hHeld => ?_)
    · (exact HS.out _ (by first | assumption | exact hHeld.1 | exact below_step hHeld.1 (below_alloc _ _)))
    clear hK K
    try simp only [Act.put, List.setIfInBounds_toArray, List.set_cons_zero, List.set_cons_succ]
    refine run_at 5 rfl (by kernel_rfl) (by rfl) (fun K hK => ?_)
    go_simp
    refine (unless_calls _ _ _).mono ?_
    rintro e w' ⟨rfl, rfl⟩
    go_wp2_with fail
    refine hK.out _ _ ?_ (fun hHeld => ?_)
    · (exact HS.out _ (by first | assumption | exact hHeld.1 | exact below_step hHeld.1 (below_alloc _ _)))
    clear hK K
    try simp only [Act.put, List.setIfInBounds_toArray, List.set_cons_zero, List.set_cons_succ]
    refine take_at 8 12 (v := ?_) rfl rfl (by kernel_rfl) (by kernel_rfl) (by kernel_rfl) (fun _ _ _ h => h) (by rfl) ?y8 (by assumption) ?r8
    case y8 =>
      intro w hSw
      try dsimp only at hSw
      go_simp
      try with_reducible rfl
    simp only [List.set_cons_zero, List.set_cons_succ]
    refine skip_at 9 13 rfl rfl (by kernel_rfl) (by kernel_rfl) (by kernel_rfl) (fun _ _ _ h => h) (by rfl) (by assumption) ?_
    simp only [List.set_cons_zero, List.set_cons_succ]
    refine skip_at 10 14 rfl rfl (by kernel_rfl) (by kernel_rfl) (by kernel_rfl) (fun _ _ _ h => h) (by rfl) (by assumption) ?_
    simp only [List.set_cons_zero, List.set_cons_succ]
    refine skip_at 11 15 rfl rfl (by kernel_rfl) (by kernel_rfl) (by kernel_rfl) (fun _ _ _ h => h) (by rfl) (by assumption) ?_
    simp only [List.set_cons_zero, List.set_cons_succ]
    refine skip_at 12 16 rfl rfl (by kernel_rfl) (by kernel_rfl) (by kernel_rfl) (fun _ _ _ h => h) (by rfl) (by assumption) ?_
    simp only [List.set_cons_zero, List.set_cons_succ]
    refine skip_at 13 17 rfl rfl (by kernel_rfl) (by kernel_rfl) (by kernel_rfl) (fun _ _ _ h => h) (by rfl) (by assumption) ?_
    simp only [List.set_cons_zero, List.set_cons_succ]
    refine skip_at 14 18 rfl rfl (by kernel_rfl) (by kernel_rfl) (by kernel_rfl) (fun _ _ _ h => h) (by rfl) (by assumption) ?_
    simp only [List.set_cons_zero, List.set_cons_succ]
    refine skip_at 15 19 rfl rfl (by kernel_rfl) (by kernel_rfl) (by kernel_rfl) (fun _ _ _ h => h) (by rfl) (by assumption) ?_
    simp only [List.set_cons_zero, List.set_cons_succ]
    refine skip_at 16 20 rfl rfl (by kernel_rfl) (by kernel_rfl) (by kernel_rfl) (fun _ _ _ h => h) (by rfl) (by assumption) ?_
    simp only [List.set_cons_zero, List.set_cons_succ]
    refine skip_at 17 21 rfl rfl (by kernel_rfl) (by kernel_rfl) (by kernel_rfl) (fun _ _ _ h => h) (by rfl) (by assumption) ?_
    simp only [List.set_cons_zero, List.set_cons_succ]
    refine skip_at 18 22 rfl rfl (by kernel_rfl) (by kernel_rfl) (by kernel_rfl) (fun _ _ _ h => h) (by rfl) (by assumption) ?_
    simp only [List.set_cons_zero, List.set_cons_succ]
    refine take_at 19 23 (v := ?_) rfl rfl (by kernel_rfl) (by kernel_rfl) (by kernel_rfl) (fun _ _ _ h => h) (by rfl) ?y19 (by assumption) ?r19
    case y19 =>
      intro w hSw
      try dsimp only at hSw
      go_simp
      try with_reducible rfl
    simp only [List.set_cons_zero, List.set_cons_succ]
    refine run_at 20 rfl (by kernel_rfl) (by rfl) (fun K hK => ?_)
    go_simp
    refine (unless_calls _ _ _).mono ?_
    rintro e w' ⟨rfl, rfl⟩
    go_wp2_with fail
    refine hK.out _ _ ?_ (fun hHeld => ?_)
    · (exact HS.out _ (by first | assumption | exact hHeld.1 | exact below_step hHeld.1 (below_alloc _ _)))
    clear hK K
    try simp only [Act.put, List.setIfInBounds_toArray, List.set_cons_zero, List.set_cons_succ]
    refine run_at 21 rfl (by kernel_rfl) (by rfl) (fun K hK => ?_)
    go_simp
    refine hK.out _ _ ?_ (fun hHeld => ?_)
    · (exact HS.out _ (by first | assumption | exact hHeld.1 | exact below_step hHeld.1 (below_alloc _ _)))
    clear hK K
    try simp only [Act.put, List.setIfInBounds_toArray, List.set_cons_zero, List.set_cons_succ]
    refine run_at 22 rfl (by kernel_rfl) (by rfl) (fun K hK => ?_)
    go_simp
    refine (orE_calls W.heap.size 0 2 [unlessE (keyB k) 5, unlessE true 7] _ (by simp) (by exact nums2 W _ _ _)).mono ?_
    rintro e w' ⟨rfl, rfl⟩
    go_wp2_with fail
    refine hK.out _ _ ?_ (fun hHeld => ?_)
    · (exact HS.out _ (by first | assumption | exact hHeld.1 | exact below_step hHeld.1 (below_alloc _ _)))
    clear hK K
    try simp only [Act.put, List.setIfInBounds_toArray, List.set_cons_zero, List.set_cons_succ]
    refine take_at 23 3 (v := ?_) rfl rfl (by kernel_rfl) (by kernel_rfl) (by kernel_rfl) (fun _ _ _ h => h) (by rfl) ?y23 (by assumption) ?r23
    case y23 =>
      intro w hSw
      try dsimp only at hSw
      go_simp
      try with_reducible rfl
    simp only [List.set_cons_zero, List.set_cons_succ]
    refine wpAnyH_done (by kernel_rfl) ?_ _
    go_wp2_with fail
    go_ret
    exact ⟨ret_int Hr.out.symm, hHeld.1⟩
  · obtain ⟨kp, hkp⟩ : ∃ kp, ks[i - 1]? = some kp := ⟨_, List.getElem?_eq_getElem (show i - 1 < ks.length by omega)⟩
    have Hr := Lib.hid (show risF ks i = firstE [unlessE (keyB k) 5, unlessE (ltS kp k) 7] by rw [risF, strAt_some hi, strAt_some hkp]; simp [hz])
    have g1 := hc (i - 1) kp hkp
    have HS : ∀ w', Below W.heap.size W w' → (Below W.heap.size W w' ∧ w'.cell? ⟨c, 0, none⟩ = some (.slice (some ⟨g, off, none⟩) ks.length cap) ∧ w'.cell? ⟨g, off + i, none⟩ = some (.string k) ∧ w'.cell? ⟨g, off + (i - 1), none⟩ = some (.string kp)) := fun w' hb => ⟨hb, below_cell hb h1, below_cell hb g0, below_cell hb g1⟩
    have e0 : ((i : Int) == 0) = false := by rw [beq_eq_false_iff_ne]; omega
    have w1 : IntKind.i64.wrap ((i : Int) - 1) = ((i - 1 : Nat) : Int) := by rw [IntWalk.i64_in _ (by omega)]; omega
    have w2 : ((i - 1 : Nat) : Int) < (ks.length : Int) := by omega
    have HS := Lib.hid HS
    clear hz hc hi h1 g0 g1 hkp
    go_enter Tryz.func146, Tryz.ntmps146
    go_wp2_with fail
    refine wp_region_held_drew (S := fun w' => Below W.heap.size W w' ∧ w'.cell? ⟨c, 0, none⟩ = some (.slice (some ⟨g, off, none⟩) ks.length cap) ∧ w'.cell? ⟨g, off + i, none⟩ = some (.string k) ∧ w'.cell? ⟨g, off + (i - 1), none⟩ = some (.string kp)) (by kernel_rfl) ?_ (fun hHeld => ?_)
    · (exact HS.out _ (by first | assumption | exact hHeld.1 | exact below_step hHeld.1 (below_alloc _ _)))
    refine take_at 0 4 (v := ?_) rfl rfl (by kernel_rfl) (by kernel_rfl) (by kernel_rfl) (fun _ _ _ h => h) (by rfl) ?y0b (by assumption) ?r0b
    case y0b =>
      intro w hSw
      try dsimp only at hSw
      go_simp
      try with_reducible rfl
    simp only [List.set_cons_zero, List.set_cons_succ]
    refine take_at 1 5 (v := ?_) rfl rfl (by kernel_rfl) (by kernel_rfl) (by kernel_rfl) (fun _ _ _ h => h) (by rfl) ?y1b (by assumption) ?r1b
    case y1b =>
      intro w hSw
      try dsimp only at hSw
      go_simp
      try with_reducible rfl
    simp only [List.set_cons_zero, List.set_cons_succ]
    refine take_at 2 6 (v := ?_) rfl rfl (by kernel_rfl) (by kernel_rfl) (by kernel_rfl) (fun _ _ _ h => h) (by rfl) ?y2b (by assumption) ?r2b
    case y2b =>
      intro w hSw
      try dsimp only at hSw
      go_simp
      try with_reducible rfl
    simp only [List.set_cons_zero, List.set_cons_succ]
    refine take_at 3 7 (v := ?_) rfl rfl (by kernel_rfl) (by kernel_rfl) (by kernel_rfl) (fun _ _ _ h => h) (by rfl) ?y3b (by assumption) ?r3b
    case y3b =>
      intro w hSw
      try dsimp only at hSw
      go_simp
      try with_reducible rfl
    simp only [List.set_cons_zero, List.set_cons_succ]
    refine take_at 6 10 (v := ?_) rfl rfl (by kernel_rfl) (by kernel_rfl) (by kernel_rfl) (fun _ _ _ h => h) (by rfl) ?y6b (by assumption) ?r6b
    case y6b =>
      intro w hSw
      try dsimp only at hSw
      go_simp
      try with_reducible rfl
    simp only [List.set_cons_zero, List.set_cons_succ]
    refine take_at 7 11 (v := ?_) rfl rfl (by kernel_rfl) (by kernel_rfl) (by kernel_rfl) (fun _ _ _ h => h) (by rfl) ?y7b (by assumption) ?r7b
    case y7b =>
      intro w hSw
      try dsimp only at hSw
      go_simp
      try with_reducible rfl
    simp only [List.set_cons_zero, List.set_cons_succ]
    refine run_at 4 rfl (by kernel_rfl) (by rfl) (fun K hK => ?_)
    go_simp
    refine (key_calls k _ hk40).mono ?_
    rintro e w' ⟨rfl, rfl⟩
    go_wp2_with fail
    refine hK.out _ _ ?_ (fun hHeld => ?_)
    · (exact HS.out _ (by first | assumption | exact hHeld.1 | exact below_step hHeld.1 (below_alloc _ _)))
    clear hK K
    try simp only [Act.put, List.setIfInBounds_toArray, List.set_cons_zero, List.set_cons_succ]
    refine run_at 5 rfl (by kernel_rfl) (by rfl) (fun K hK => ?_)
    go_simp
    refine (unless_calls _ _ _).mono ?_
    rintro e w' ⟨rfl, rfl⟩
    go_wp2_with fail
    refine hK.out _ _ ?_ (fun hHeld => ?_)
    · (exact HS.out _ (by first | assumption | exact hHeld.1 | exact below_step hHeld.1 (below_alloc _ _)))
    clear hK K
    try simp only [Act.put, List.setIfInBounds_toArray, List.set_cons_zero, List.set_cons_succ]
    refine take_at 8 12 (v := ?_) rfl rfl (by kernel_rfl) (by kernel_rfl) (by kernel_rfl) (fun _ _ _ h => h) (by rfl) ?y8b (by assumption) ?r8b
    case y8b =>
      intro w hSw
      try dsimp only at hSw
      go_simp
      try with_reducible rfl
    simp only [List.set_cons_zero, List.set_cons_succ]
    refine take_at 9 13 (v := ?_) rfl rfl (by kernel_rfl) (by kernel_rfl) (by kernel_rfl) (fun _ _ _ h => h) (by rfl) ?y9b (by assumption) ?r9b
    case y9b =>
      intro w hSw
      try dsimp only at hSw
      go_simp
      try with_reducible rfl
    simp only [List.set_cons_zero, List.set_cons_succ]
    refine take_at 10 14 (v := ?_) rfl rfl (by kernel_rfl) (by kernel_rfl) (by kernel_rfl) (fun _ _ _ h => h) (by rfl) ?y10b (by assumption) ?r10b
    case y10b =>
      intro w hSw
      try dsimp only at hSw
      go_simp
      try with_reducible rfl
    simp only [List.set_cons_zero, List.set_cons_succ]
    refine take_at 11 15 (v := ?_) rfl rfl (by kernel_rfl) (by kernel_rfl) (by kernel_rfl) (fun _ _ _ h => h) (by rfl) ?y11b (by assumption) ?r11b
    case y11b =>
      intro w hSw
      try dsimp only at hSw
      go_simp
      try with_reducible rfl
    simp only [List.set_cons_zero, List.set_cons_succ]
    refine take_at 12 16 (v := ?_) rfl rfl (by kernel_rfl) (by kernel_rfl) (by kernel_rfl) (fun _ _ _ h => h) (by rfl) ?y12b (by assumption) ?r12b
    case y12b =>
      intro w hSw
      try dsimp only at hSw
      go_simp
      try with_reducible rfl
    simp only [List.set_cons_zero, List.set_cons_succ]
    refine take_at 13 17 (v := ?_) rfl rfl (by kernel_rfl) (by kernel_rfl) (by kernel_rfl) (fun _ _ _ h => h) (by rfl) ?y13b (by assumption) ?r13b
    case y13b =>
      intro w hSw
      try dsimp only at hSw
      go_simp
      try with_reducible rfl
    simp only [List.set_cons_zero, List.set_cons_succ]
    refine take_at 14 18 (v := ?_) rfl rfl (by kernel_rfl) (by kernel_rfl) (by kernel_rfl) (fun _ _ _ h => h) (by rfl) ?y14b (by assumption) ?r14b
    case y14b =>
      intro w hSw
      try dsimp only at hSw
      go_simp
      try with_reducible rfl
    simp only [List.set_cons_zero, List.set_cons_succ]
    refine take_at 15 19 (v := ?_) rfl rfl (by kernel_rfl) (by kernel_rfl) (by kernel_rfl) (fun _ _ _ h => h) (by rfl) ?y15b (by assumption) ?r15b
    case y15b =>
      intro w hSw
      try dsimp only at hSw
      go_simp
      try with_reducible rfl
    simp only [List.set_cons_zero, List.set_cons_succ]
    refine take_at 16 20 (v := ?_) rfl rfl (by kernel_rfl) (by kernel_rfl) (by kernel_rfl) (fun _ _ _ h => h) (by rfl) ?y16b (by assumption) ?r16b
    case y16b =>
      intro w hSw
      try dsimp only at hSw
      go_simp
      try with_reducible rfl
    simp only [List.set_cons_zero, List.set_cons_succ]
    refine take_at 17 21 (v := ?_) rfl rfl (by kernel_rfl) (by kernel_rfl) (by kernel_rfl) (fun _ _ _ h => h) (by rfl) ?y17b (by assumption) ?r17b
    case y17b =>
      intro w hSw
      try dsimp only at hSw
      go_simp
      try with_reducible rfl
    simp only [List.set_cons_zero, List.set_cons_succ]
    refine take_at 18 22 (v := ?_) rfl rfl (by kernel_rfl) (by kernel_rfl) (by kernel_rfl) (fun _ _ _ h => h) (by rfl) ?y18b (by assumption) ?r18b
    case y18b =>
      intro w hSw
      try dsimp only at hSw
      go_simp
      try with_reducible rfl
    simp only [List.set_cons_zero, List.set_cons_succ]
    refine take_at 19 23 (v := ?_) rfl rfl (by kernel_rfl) (by kernel_rfl) (by kernel_rfl) (fun _ _ _ h => h) (by rfl) ?y19b (by assumption) ?r19b
    case y19b =>
      intro w hSw
      try dsimp only at hSw
      go_simp
      try with_reducible rfl
    simp only [List.set_cons_zero, List.set_cons_succ]
    refine run_at 20 rfl (by kernel_rfl) (by rfl) (fun K hK => ?_)
    go_simp
    refine (unless_calls _ _ _).mono ?_
    rintro e w' ⟨rfl, rfl⟩
    go_wp2_with fail
    refine hK.out _ _ ?_ (fun hHeld => ?_)
    · (exact HS.out _ (by first | assumption | exact hHeld.1 | exact below_step hHeld.1 (below_alloc _ _)))
    clear hK K
    try simp only [Act.put, List.setIfInBounds_toArray, List.set_cons_zero, List.set_cons_succ]
    refine run_at 21 rfl (by kernel_rfl) (by rfl) (fun K hK => ?_)
    go_simp
    refine hK.out _ _ ?_ (fun hHeld => ?_)
    · (exact HS.out _ (by first | assumption | exact hHeld.1 | exact below_step hHeld.1 (below_alloc _ _)))
    clear hK K
    try simp only [Act.put, List.setIfInBounds_toArray, List.set_cons_zero, List.set_cons_succ]
    refine run_at 22 rfl (by kernel_rfl) (by rfl) (fun K hK => ?_)
    go_simp
    refine (orE_calls W.heap.size 0 2 [unlessE (keyB k) 5, unlessE (Op.bytesLess kp.toList k.toList) 7] _ (by simp) (by exact nums2 W _ _ _)).mono ?_
    rintro e w' ⟨rfl, rfl⟩
    go_wp2_with fail
    refine hK.out _ _ ?_ (fun hHeld => ?_)
    · (exact HS.out _ (by first | assumption | exact hHeld.1 | exact below_step hHeld.1 (below_alloc _ _)))
    clear hK K
    try simp only [Act.put, List.setIfInBounds_toArray, List.set_cons_zero, List.set_cons_succ]
    refine take_at 23 3 (v := ?_) rfl rfl (by kernel_rfl) (by kernel_rfl) (by kernel_rfl) (fun _ _ _ h => h) (by rfl) ?y23b (by assumption) ?r23b
    case y23b =>
      intro w hSw
      try dsimp only at hSw
      go_simp
      try with_reducible rfl
    simp only [List.set_cons_zero, List.set_cons_succ]
    refine wpAnyH_done (by kernel_rfl) ?_ _
    go_wp2_with fail
    go_ret
    exact ⟨ret_int Hr.out.symm, hHeld.1⟩
end Go.Proofs.YthlfjfmlmcoihaaGreat
/- check.Rising and CheckPlayers. -/
namespace Go.Proofs.YthlfjfmlmcoihaaGreat
open Go.RowKit

theorem strs_shape' {w : World} {lo : Nat} {v : Value} {ks : List ByteArray} (h : Strs w lo v ks) : ∃ a c, v = .slice a ks.length c := by
  rcases strs_at h with ⟨rfl, rfl⟩ | ⟨g, off, cap, rfl, _⟩
  · exact ⟨none, 0, rfl⟩
  · exact ⟨_, _, rfl⟩
set_option maxRecDepth 100000 in
set_option maxHeartbeats 1000000 in
theorem rising_calls (lo : Nat) (v : Value) (ks : List ByteArray) (most : Int) (w : World) (hv : Strs w lo v ks) (hk : ∀ k ∈ ks, k.size ≤ 1000) (hn : ks.length ≤ 1000000) :
    Calls Tryz.prog 125 #[v, .int .i64 most] w (IntBelow (eachE ks.length most (risF ks)) w) := by
  obtain ⟨a, c, rfl⟩ := strs_shape' hv
  have hf : ∀ (W : World) (i : Nat), i < ks.length → Below (w.alloc (.cells #[.slice a ks.length c] 39)).heap.size (w.alloc (.cells #[.slice a ks.length c] 39)) W → Calls Tryz.prog 146 (#[.int .i64 (i : Int)] ++ #[.pointer (some ⟨w.heap.size, 0, none⟩)]) W (IntBelow (risF ks i) W) := by
    intro W i hi hb
    have hvW := (hv.below (below_alloc w (.cells #[.slice a ks.length c] 39))).below hb
    rcases strs_at hvW with ⟨_, rfl⟩ | ⟨g, off, cap, e, _, _, _, hc⟩
    · simp at hi
    · obtain ⟨k, hki⟩ : ∃ k, ks[i]? = some k := ⟨ks[i], List.getElem?_eq_getElem hi⟩
      refine rising1_calls w.heap.size g off cap i ks k W hki (by have := hk k (List.mem_of_getElem? hki); omega) hn ?_ hc
      rw [← e]
      exact below_cell hb (by rw [World.cell?_alloc_at _ _ _ _ rfl]; rfl)
  have Hf := Lib.hid hf
  clear hf hv
  go_enter Tryz.func125, Tryz.ntmps125
  go_wp2_with fail
  refine (each_calls 146 #[.pointer (some ⟨w.heap.size, 0, none⟩)] (enters_of Tryz.func146 (by kernel_rfl) rfl) (risF ks) ks.length most _ hn Hf.out).mono ?_
  rintro e w' ⟨rfl, hb⟩
  go_wp2_with fail
  go_ret
  exact ⟨rfl, (below_alloc w _).trans (hb.mono (by simp))⟩

theorem nums4' (w : World) (T : Nat) (a b c d : Int) : NumsAt (w.alloc (.cells #[.int .i64 a, .int .i64 b, .int .i64 c, .int .i64 d] T)) w.heap.size 0 [a, b, c, d] := by
  intro i x hx
  rw [World.cell?_alloc_at _ _ _ _ rfl]
  match i, hx with
  | 0, hx => simp at hx; subst hx; rfl
  | 1, hx => simp at hx; subst hx; rfl
  | 2, hx => simp at hx; subst hx; rfl
  | 3, hx => simp at hx; subst hx; rfl
theorem nums5 (w : World) (T : Nat) (a b c d e : Int) : NumsAt (w.alloc (.cells #[.int .i64 a, .int .i64 b, .int .i64 c, .int .i64 d, .int .i64 e] T)) w.heap.size 0 [a, b, c, d, e] := by
  intro i x hx
  rw [World.cell?_alloc_at _ _ _ _ rfl]
  match i, hx with
  | 0, hx => simp at hx; subst hx; rfl
  | 1, hx => simp at hx; subst hx; rfl
  | 2, hx => simp at hx; subst hx; rfl
  | 3, hx => simp at hx; subst hx; rfl
  | 4, hx => simp at hx; subst hx; rfl

end Go.Proofs.YthlfjfmlmcoihaaGreat
/- Fractions: the greatest common divisor, lowest terms, hundredths, on both sides. -/
namespace Go.Proofs.YthlfjfmlmcoihaaGreat
open Go.RowKit

/-- The greatest common divisor. -/
def gcdI (a b : Int) : Int := (Nat.gcd a.natAbs b.natAbs : Nat)
theorem gcdI_pos {a b : Int} (h : 0 < b) : 0 < gcdI a b := by
  unfold gcdI
  have : 0 < Nat.gcd a.natAbs b.natAbs := Nat.gcd_pos_of_pos_right _ (by omega)
  omega
theorem gcdI_le {a b : Int} (h : 0 < b) : gcdI a b ≤ b := by
  unfold gcdI
  have := Nat.gcd_le_right (n := b.natAbs) a.natAbs (by omega)
  omega
theorem gcdI_comm (a b : Int) : gcdI a b = gcdI b a := by unfold gcdI; rw [Nat.gcd_comm]
theorem gcdI_step (a b : Int) : gcdI (b.tmod a) a = gcdI a b := by
  unfold gcdI
  rw [Int.natAbs_tmod, ← Nat.gcd_rec]
theorem gcdI_zero (b : Int) : gcdI 0 b = (b.natAbs : Int) := by unfold gcdI; simp
def Int64 (x : Int) : Prop := -9223372036854775808 ≤ x ∧ x ≤ 9223372036854775807
theorem tmod_small (a b : Int) (ha : a ≠ 0) : (b.tmod a).natAbs < a.natAbs := by
  rw [Int.natAbs_tmod]
  exact Nat.mod_lt _ (by omega)
theorem tmod_64 {a b : Int} (ha : a ≠ 0) (h : Int64 a) : Int64 (b.tmod a) := by
  have := tmod_small a b ha
  unfold Int64 at *
  omega

set_option maxRecDepth 100000 in
set_option maxHeartbeats 1000000 in
theorem divisor_calls (n above : Int) (w : World) (hn : Int64 n) (ha : Int64 above) (h0 : 0 < above) :
    Calls Tryz.prog 126 #[.int .i64 n, .int .i64 above] w fun e w' => e = .returned (.int .i64 (gcdI n above)) ∧ w = w' := by
  have HG := Lib.hid (gcdI_le (a := n) h0)
  have hG := Lib.hid (⟨gcdI n above, rfl⟩ : ∃ G, G = gcdI n above)
  obtain ⟨G, hG⟩ := hG.out
  rw [← hG] at HG ⊢
  have H1 := Lib.hid hG
  have Hn := Lib.hid hn
  have Ha := Lib.hid ha
  clear hG hn ha h0
  go_enter Tryz.func126, Tryz.ntmps126
  go_wp2_with fail
  go_loop [0, 1] (fun t s => ∃ a b : Int, t = .int .i64 a ∧ s = .int .i64 b ∧ Hid (Int64 a ∧ Int64 b ∧ gcdI a b = G)) (fun t _ => (intOf t).natAbs)
  case atStart => exact ⟨n, above, rfl, rfl, Lib.hid ⟨Hn.out, Ha.out, H1.out.symm⟩⟩
  case round =>
    obtain ⟨a, b, rfl, rfl, H⟩ := hrel
    by_cases hz : a = 0
    · subst hz
      have hb : (b.natAbs : Int) = G := by rw [← H.out.2.2, gcdI_zero]
      have hr := Ha.out
      have hG := HG.out
      unfold Int64 at hr
      have hm : max b (-b) = G := by omega
      have Hm := Lib.hid hm
      clear hm
      go_wp2_with fail
      go_ret
      exact ⟨ret_int Hm.out, rfl⟩
    · have hne : (a != 0) = true := by simp [hz]
      have hr := tmod_64 (b := b) hz H.out.1
      have Hs := Lib.hid (tmod_small a b hz)
      unfold Int64 at hr
      obtain ⟨hr1, hr2⟩ := hr
      have Hz := Lib.hid hz
      clear hz
      go_wp2_with fail
      go_round
      case rel => exact ⟨_, _, rfl, rfl, Lib.hid ⟨tmod_64 Hz.out H.out.1, H.out.1, (gcdI_step a b).trans H.out.2.2⟩⟩
      case measure => simp only [intOf]; exact Hs.out

theorem results_cell1 {fn : Func} {p : Tmp} {ty : TypeId} (h : fn.results = #[.cell p ty]) (tmps : Array Value) (P : Program) (w : World) :
    (results fn tmps).run P w = ((asAddr (tmps.getD p undef)).run P w).andThen fun a w₁ => (loadVar ty a).run P w₁ := by
  simp only [results, h]
  simp [Sem.run_bind, Result.andThen]
theorem cells_later {w w' : World} {T g : Nat} {cur : Array Value} (h : w.heap[g]? = some (.cells cur T (0, 0))) (hb : Below w.heap.size w w') : w'.heap[g]? = some (.cells cur T (0, 0)) := (hb.block _ (lt_of_heap h)).trans h
theorem free_of {w : World} {T g : Nat} {cur : Array Value} (h : w.heap[g]? = some (.cells cur T (0, 0))) (o : Nat) : w.frozen? ⟨g, o, none⟩ = false := by simp [World.frozen?, h]
theorem cell_at {w : World} {T g : Nat} {cur : Array Value} {u : Value} (h : w.heap[g]? = some (.cells cur T (0, 0))) (o : Nat) (hu : cur[o]? = some u) : w.cell? ⟨g, o, none⟩ = some u := by rw [cell_of_row w g o cur T (0, 0) h, hu]
/-- A fraction's value. -/
def frV (f : Int × Int) : Value := .agg #[.int .i64 f.1, .int .i64 f.2]
def lowF (n d : Int) : Int × Int := (n.tdiv (gcdI n d), d.tdiv (gcdI n d))
theorem tdiv_64 {n g : Int} (hn : Int64 n) (hg : 0 < g) : Int64 (n.tdiv g) := by
  have h := Int.natAbs_tdiv n g
  have h1 : n.natAbs / g.natAbs ≤ n.natAbs := Nat.div_le_self _ _
  have h2 : (n.tdiv g).natAbs ≤ n.natAbs := by rw [h]; exact h1
  have h3 : 0 ≤ n → 0 ≤ n.tdiv g := fun h => Int.tdiv_nonneg h (by omega)
  have h4 : n ≤ 0 → n.tdiv g ≤ 0 := fun h => by
    have := Int.tdiv_nonneg (show 0 ≤ -n by omega) (show 0 ≤ g by omega)
    rw [Int.neg_tdiv] at this
    omega
  clear h h1
  unfold Int64 at *
  omega

set_option maxRecDepth 100000 in
set_option maxHeartbeats 1000000 in
theorem of_calls (n d : Int) (w : World) (hn : Int64 n) (hd : Int64 d) (h0 : 0 < d) :
    Calls Tryz.prog 106 #[.int .i64 n, .int .i64 d] w fun e w' => e = .returned (frV (lowF n d)) ∧ Below w.heap.size w w' := by
  have hG := gcdI_pos (a := n) h0
  have hg1 := tdiv_64 hn hG
  have hg2 := tdiv_64 hd hG
  have H := Lib.hid (show frV (lowF n d) = .agg #[.int .i64 (n.tdiv (gcdI n d)), .int .i64 (d.tdiv (gcdI n d))] from rfl)
  have C := fun w => Lib.hid (divisor_calls n d w hn hd h0)
  generalize gcdI n d = G at *
  generalize lowF n d = L at *
  unfold Int64 at *
  have hne : G ≠ 0 := by omega
  go_enter Tryz.func106, Tryz.ntmps106
  go_wp2_with fail
  refine (C _).out.mono ?_
  rintro e w' ⟨rfl, rfl⟩
  go_wp2_with fail
  go_region
  go_wp2_with fail
  try simp only [Exit.inBlock, Exit.then]
  refine bodyPost_ret (v := .agg #[.int .i64 (n.tdiv G), .int .i64 (d.tdiv G)]) ?_ rfl ⟨ret_val H.out.symm, ((Below.refl w.heap.size w).alloc (Nat.le_refl _) _).drew⟩
  rw [results_cell1 rfl]
  go_simp
set_option maxHeartbeats 400000 in
theorem ofHundredths_calls (n : Int) (w : World) (hn : Int64 n) :
    Calls Tryz.prog 57 #[.int .i64 n] w fun e w' => e = .returned (frV (lowF n 100)) ∧ Below w.heap.size w w' := by
  have hb0 := below_alloc w (.cells #[.int .i64 0, .int .i64 0] 34)
  go_enter Tryz.func57, Tryz.ntmps57
  go_wp2_with fail
  refine (of_calls n 100 _ hn (by unfold Int64; omega) (by omega)).mono ?_
  rintro e w' ⟨rfl, hb⟩
  rw [show frV (lowF n 100) = .agg #[.int .i64 (lowF n 100).1, .int .i64 (lowF n 100).2] from rfl]
  have hx := cells_later (heap_alloc_new w _) hb
  have z0 := cell_at hx 0 rfl
  have z1 := cell_at hx 1 rfl
  have f0 := free_of hx 0
  have f1 := free_of hx 1
  have Hb := Lib.hid (below_step hb0 hb)
  clear hx hb hb0
  obtain ⟨L, hL⟩ : ∃ L, L = lowF n 100 := ⟨_, rfl⟩
  have HL := Lib.hid (show Ending.returned (.agg #[.int .i64 L.1, .int .i64 L.2]) = Ending.returned (frV (lowF n 100)) by rw [hL]; rfl)
  rw [← hL]
  clear hL
  go_wp2_with fail
  try simp only [Exit.inBlock, Exit.then]
  refine bodyPost_ret (v := .agg #[.int .i64 L.1, .int .i64 L.2]) ?_ rfl ⟨HL.out, (Hb.out.setCell (p := ⟨w.heap.size, 0, none⟩) (Nat.le_refl _) _).setCell (p := ⟨w.heap.size, 1, none⟩) (Nat.le_refl _) _⟩
  rw [results_cell1 rfl]
  go_simp
set_option maxHeartbeats 400000 in
theorem hundredths_calls (n d : Int) (w : World) (hd : 0 < d) (h1 : Int64 (n * ((100 : Int).tdiv d))) (h2 : d ≤ 100):
    Calls Tryz.prog 107 #[frV (n, d)] w fun e w' => e = .returned (.int .i64 (n * ((100 : Int).tdiv d))) ∧ Below w.heap.size w w' := by
  unfold frV Int64 at *
  have hd0 : d ≠ 0 := by omega
  have h3 := tdiv_64 (show Int64 100 by unfold Int64; omega) hd
  unfold Int64 at h3
  go_enter Tryz.func107, Tryz.ntmps107
  go_wp2_with fail
  go_quiet (fail)
  go_wp2_with fail
  go_ret
  exact ⟨rfl, below_drewN (below_alloc w _) nq⟩

/-- What is wrong with points. -/
def wrongF (n d most : Int) : Int := if d ≤ 0 ∨ gcdI n d ≠ 1 then 3 else if (100 : Int) % d ≠ 0 ∨ ¬ (-most * d ≤ n ∧ n ≤ most * d) then 1 else 0
theorem den_100 {d : Int} (h : (100 : Int) % d = 0) : d ≤ 100 := Int.le_of_dvd (by omega) (Int.dvd_of_emod_eq_zero h)
set_option maxRecDepth 100000 in
set_option maxHeartbeats 1000000 in
theorem wrong_calls (n d : Int) (w : World) (hn : Int64 n) (hd : Int64 d) :
    Calls Tryz.prog 81 #[frV (n, d), .int .i64 10000] w fun e w' => e = .returned (.int .i64 (wrongF n d 10000)) ∧ Below w.heap.size w w' := by
  have hb := below_alloc w (.cells #[.int .i64 n, .int .i64 d] 34)
  unfold frV
  by_cases h0 : d ≤ 0
  · have HW := Lib.hid (show wrongF n d 10000 = 3 by unfold wrongF; rw [if_pos (Or.inl h0)])
    go_enter Tryz.func81, Tryz.ntmps81
    go_wp2_with fail
    go_ret
    exact ⟨ret_int HW.out.symm, hb⟩
  · have C := fun w => Lib.hid (divisor_calls n d w hn hd (by omega))
    by_cases h1 : gcdI n d = 1
    · by_cases h2 : (100 : Int) % d = 0
      · have h3 := den_100 h2
        by_cases h4 : -10000 * d ≤ n ∧ n ≤ 10000 * d
        · have HW := Lib.hid (show wrongF n d 10000 = 0 by unfold wrongF; rw [if_neg (by omega), if_neg (by omega)])
          have H4 := Lib.hid (show betwB n (-10000 * d) (10000 * d) = true by unfold betwB; simp; omega)
          rw [h1] at C
          clear h4 hn hd h1
          go_enter Tryz.func81, Tryz.ntmps81
          go_wp2_with fail
          refine (C _).out.mono ?_
          rintro e w' ⟨rfl, rfl⟩
          go_wp2_with fail
          refine (between_calls n (-10000 * d) (10000 * d) _).mono ?_
          rintro e w' ⟨rfl, rfl⟩
          rw [H4.out]
          go_wp2_with fail
          go_ret
          exact ⟨ret_int HW.out.symm, hb⟩
        · have HW := Lib.hid (show wrongF n d 10000 = 1 by unfold wrongF; rw [if_neg (by omega), if_pos (by omega)])
          have H4 := Lib.hid (show betwB n (-10000 * d) (10000 * d) = false by unfold betwB; simp; omega)
          rw [h1] at C
          clear h4 hn hd h1
          go_enter Tryz.func81, Tryz.ntmps81
          go_wp2_with fail
          refine (C _).out.mono ?_
          rintro e w' ⟨rfl, rfl⟩
          go_wp2_with fail
          refine (between_calls n (-10000 * d) (10000 * d) _).mono ?_
          rintro e w' ⟨rfl, rfl⟩
          rw [H4.out]
          go_wp2_with fail
          go_ret
          exact ⟨ret_int HW.out.symm, hb⟩
      · have HW := Lib.hid (show wrongF n d 10000 = 1 by unfold wrongF; rw [if_neg (by omega), if_pos (by omega)])
        have h5 : ((100 : Int) % d != 0) = true := by simpa using h2
        have hr1 := Int.emod_nonneg 100 (show d ≠ 0 by omega)
        have hr2 := Int.emod_lt_of_pos 100 (show 0 < d by omega)
        have h6 : d ≠ 0 := by omega
        rw [h1] at C
        clear h2 hn hd h1
        go_enter Tryz.func81, Tryz.ntmps81
        go_wp2_with fail
        refine (C _).out.mono ?_
        rintro e w' ⟨rfl, rfl⟩
        go_wp2_with fail
        go_ret
        exact ⟨ret_int HW.out.symm, hb⟩
    · have HW := Lib.hid (show wrongF n d 10000 = 3 by unfold wrongF; rw [if_pos (Or.inr h1)])
      have h5 : (gcdI n d != 1) = true := by simpa using h1
      clear h1 hn hd
      generalize gcdI n d = G at C h5
      go_enter Tryz.func81, Tryz.ntmps81
      go_wp2_with fail
      refine (C _).out.mono ?_
      rintro e w' ⟨rfl, rfl⟩
      go_wp2_with fail
      go_ret
      exact ⟨ret_int HW.out.symm, hb⟩
end Go.Proofs.YthlfjfmlmcoihaaGreat
/- The reference's small parts: when, errs, in, Week, only, Key. -/
namespace Go.Proofs.YthlfjfmlmcoihaaGreat
open Go.RowKit

set_option maxRecDepth 100000 in
set_option maxHeartbeats 1000000 in
theorem errs_calls (g off cap : Nat) (xs : List Int) (w : World) (hn : xs.length ≤ 1000000) (hc : NumsAt w g off xs) :
    Calls Tryz.prog 13 #[.slice (some ⟨g, off, none⟩) xs.length cap] w fun e w' => e = .returned (.int .i64 (firstE xs)) ∧ w = w' := by
  have Hc := Lib.hid hc
  clear hc
  go_enter Tryz.func13, Tryz.ntmps13
  go_wp2_with fail
  go_loop [7] (fun i => ∃ k : Nat, k ≤ xs.length ∧ i = .int .i64 k ∧ Hid (∀ (i : Nat) (y : Int), i < k → xs[i]? = some y → y = 0)) (fun i => xs.length - (intOf i).toNat)
  case atStart => exact ⟨0, Nat.zero_le _, rfl, Lib.hid fun i y hi => by omega⟩
  case round =>
    obtain ⟨k, hk, rfl, H0⟩ := hrel
    by_cases hlt : k < xs.length
    · obtain ⟨x, hx⟩ : ∃ x, xs[k]? = some x := ⟨xs[k], List.getElem?_eq_getElem hlt⟩
      have hcell := Hc.out k x hx
      have Hx := Lib.hid hx
      clear hx
      by_cases hz : x = 0
      · subst hz
        go_wp2_with fail
        go_round
        case rel => exact ⟨k + 1, by omega, by go_num, Lib.hid fun i y hi hy => by
          rcases Nat.lt_succ_iff_lt_or_eq.1 hi with h | rfl
          · exact H0.out i y h hy
          · rw [Hx.out] at hy; exact (Option.some.inj hy).symm⟩
        case measure => simp [intOf]; omega
      · have e1 : (x != 0) = true := by simp [hz]
        have Hz := Lib.hid hz
        clear hz
        go_wp2_with fail
        go_ret
        exact ⟨ret_int (firstE_hit Hx.out H0.out Hz.out).symm, rfl⟩
    · obtain rfl : k = xs.length := by omega
      go_wp2_with fail
      go_ret
      exact ⟨ret_int (firstE_none fun i y hy => H0.out i y (List.getElem?_eq_some_iff.1 hy).1 hy).symm, rfl⟩

set_option maxRecDepth 100000 in
set_option maxHeartbeats 400000 in
theorem in_calls (n low high : Int) (w : World) :
    Calls Tryz.prog 114 #[.int .i64 n, .int .i64 low, .int .i64 high] w fun e w' => e = .returned (.bool (betwB n low high)) ∧ w = w' := by
  by_cases h1 : low ≤ n
  · by_cases h2 : n ≤ high
    · go_enter Tryz.func114, Tryz.ntmps114
      go_wp2
      go_ret
      exact ⟨ret_bool (by simp [betwB, h1, h2]), rfl⟩
    · go_enter Tryz.func114, Tryz.ntmps114
      go_wp2
      go_ret
      exact ⟨ret_bool (by simp [betwB, h1, h2]), rfl⟩
  · go_enter Tryz.func114, Tryz.ntmps114
    go_wp2
    go_ret
    exact ⟨ret_bool (by simp [betwB]; omega), rfl⟩
/-- Does a byte stand in a string? -/
def inB (some : ByteArray) (x : Int) : Bool := decide (0 ≤ Lib.indexByte some.data.toList x.toNat.toUInt8)
def onlyB (s some : ByteArray) : Bool := (List.range s.size).all fun i => inB some (byteAt s i)
set_option maxRecDepth 100000 in
set_option maxHeartbeats 1000000 in
theorem only_calls (s some : ByteArray) (w : World) (hsz : s.size ≤ 1000000) :
    Calls Tryz.prog 115 #[.string s, .string some] w fun e w' => e = .returned (.bool (onlyB s some)) ∧ w = w' := by
  go_enter Tryz.func115, Tryz.ntmps115
  go_wp2_with fail
  go_loop [8] (fun i => ∃ k : Nat, k ≤ s.size ∧ i = .int .i64 k ∧ Hid (∀ i, i < k → inB some (byteAt s i) = true)) (fun i => s.size - (intOf i).toNat)
  case atStart => exact ⟨0, Nat.zero_le _, rfl, Lib.hid fun i hi => by omega⟩
  case round =>
    obtain ⟨k, hk, rfl, Hok⟩ := hrel
    by_cases hlt : k < s.size
    · have Hx := Lib.hid (show byteAt s k = (s[k].toNat : Int) by rw [byteAt, dif_pos hlt])
      by_cases hin : inB some (s[k].toNat : Int) = true
      · have e1 : 0 ≤ Lib.indexByte some.data.toList s[k] := by unfold inB at hin; simpa using hin
        have Hnext := Lib.hid (show ∀ i, i < k + 1 → inB some (byteAt s i) = true from fun i hi => by
          rcases Nat.lt_succ_iff_lt_or_eq.1 hi with h' | rfl
          · exact Hok.out i h'
          · rw [Hx.out]; exact hin)
        clear hin
        go_wp2_with fail
        refine (Tryz.strings_IndexByte _ _ _).mono ?_
        rintro e w' ⟨rfl, h⟩
        subst h
        go_wp2_with fail
        go_round
        case rel => exact ⟨k + 1, by omega, by go_num, Hnext⟩
        case measure => simp [intOf]; omega
      · have e1 : Lib.indexByte some.data.toList s[k] < 0 := by unfold inB at hin; simpa using hin
        have Hfail := Lib.hid (show onlyB s some = false by
          unfold onlyB
          rw [List.all_eq_false]
          exact ⟨k, List.mem_range.2 hlt, by rw [Hx.out]; exact hin⟩)
        clear hin
        go_wp2_with fail
        refine (Tryz.strings_IndexByte _ _ _).mono ?_
        rintro e w' ⟨rfl, h⟩
        subst h
        go_wp2_with fail
        go_ret
        exact ⟨ret_bool Hfail.out.symm, rfl⟩
    · obtain rfl : k = s.size := by omega
      have Hall := Lib.hid (show onlyB s some = true by
        unfold onlyB
        rw [List.all_eq_true]
        exact fun i hi => Hok.out i (List.mem_range.1 hi))
      go_wp2_with fail
      go_ret
      exact ⟨ret_bool Hall.out.symm, rfl⟩

def lettersS : ByteArray := ⟨#[97, 98, 99, 100, 101, 102, 103, 104, 105, 106, 107, 108, 109, 110, 111, 112, 113, 114, 115, 116, 117, 118, 119, 120, 121, 122]⟩
def keyS : ByteArray := ⟨#[97, 98, 99, 100, 101, 102, 103, 104, 105, 106, 107, 108, 109, 110, 111, 112, 113, 114, 115, 116, 117, 118, 119, 120, 121, 122, 48, 49, 50, 51, 52, 53, 54, 55, 56, 57, 45, 95]⟩
theorem inB_letters (x : UInt8) : inB lettersS (x.toNat : Int) = smallB (x.toNat : Int) := by
  have h : ∀ x : Fin 256, inB lettersS (x.val : Int) = smallB (x.val : Int) := by decide +kernel
  exact h ⟨x.toNat, x.toNat_lt⟩
theorem inB_key (x : UInt8) : inB keyS (x.toNat : Int) = okC (x.toNat : Int) := by
  have h : ∀ x : Fin 256, inB keyS (x.val : Int) = okC (x.val : Int) := by decide +kernel
  exact h ⟨x.toNat, x.toNat_lt⟩
end Go.Proofs.YthlfjfmlmcoihaaGreat
/- The reference's Key, Rising, ListFault. -/
namespace Go.Proofs.YthlfjfmlmcoihaaGreat
open Go.RowKit

def headS (s : ByteArray) : ByteArray := s.extract 0 1
theorem onlyB_key (s : ByteArray) : onlyB s keyS = (List.range s.size).all fun i => okC (byteAt s i) := by
  unfold onlyB
  apply Bool.eq_iff_iff.2
  rw [List.all_eq_true, List.all_eq_true]
  constructor
  · intro h i hi
    have := h i hi
    rw [byteAt, dif_pos (List.mem_range.1 hi)] at this ⊢
    rwa [inB_key] at this
  · intro h i hi
    have := h i hi
    rw [byteAt, dif_pos (List.mem_range.1 hi)] at this ⊢
    rwa [inB_key]
theorem headS_size {s : ByteArray} (h : 1 ≤ s.size) : (headS s).size = 1 := by
  unfold headS; rw [ByteArray.size_extract]; omega
theorem onlyB_head {s : ByteArray} (h : 1 ≤ s.size) : onlyB (headS s) lettersS = smallB (byteAt s 0) := by
  have hs := headS_size h
  unfold onlyB
  rw [hs]
  have e : byteAt (headS s) 0 = byteAt s 0 := by
    rw [byteAt, byteAt, dif_pos (by omega), dif_pos (by omega)]
    unfold headS
    rw [ByteArray.getElem_extract]
  simp only [List.range_one, List.all_cons, List.all_nil, Bool.and_true, e]
  rw [byteAt, dif_pos (by omega)]
  exact inB_letters _
set_option maxRecDepth 100000 in
set_option maxHeartbeats 1000000 in
theorem keyR_calls (s : ByteArray) (w : World) (hsz : s.size ≤ 1000000) :
    Calls Tryz.prog 61 #[.string s] w fun e w' => e = .returned (.bool (keyB s)) ∧ w = w' := by
  by_cases h1 : betwB (s.size : Int) 1 40 = true
  · have hr : 1 ≤ s.size ∧ s.size ≤ 40 := by unfold betwB at h1; simp at h1; omega
    have HK := Lib.hid (show keyB s = (onlyB (headS s) lettersS && onlyB s keyS) by
      rw [onlyB_head hr.1, onlyB_key, keyB, decide_eq_true hr.1, decide_eq_true hr.2]; rfl)
    have HH := Lib.hid (headS_size hr.1)
    obtain ⟨h1', h2'⟩ := hr
    have H1 := Lib.hid h1
    clear h1
    by_cases h2 : onlyB (headS s) lettersS = true
    · have H2 := Lib.hid h2
      clear h2
      go_enter Tryz.func61, Tryz.ntmps61
      go_wp2_with fail
      refine (in_calls _ _ _ _).mono ?_
      rintro e w' ⟨rfl, rfl⟩
      rw [H1.out]
      go_wp2_with fail
      refine (only_calls (headS s) lettersS _ (by rw [HH.out]; omega)).mono ?_
      rintro e w' ⟨rfl, rfl⟩
      rw [H2.out]
      go_wp2_with fail
      refine (only_calls s keyS _ hsz).mono ?_
      rintro e w' ⟨rfl, rfl⟩
      go_wp2_with fail
      go_ret
      exact ⟨ret_bool (by rw [HK.out, H2.out]; rfl), rfl⟩
    · have H2 := Lib.hid (show onlyB (headS s) lettersS = false by simpa using h2)
      clear h2
      go_enter Tryz.func61, Tryz.ntmps61
      go_wp2_with fail
      refine (in_calls _ _ _ _).mono ?_
      rintro e w' ⟨rfl, rfl⟩
      rw [H1.out]
      go_wp2_with fail
      refine (only_calls (headS s) lettersS _ (by rw [HH.out]; omega)).mono ?_
      rintro e w' ⟨rfl, rfl⟩
      rw [H2.out]
      go_wp2_with fail
      go_ret
      exact ⟨ret_bool (by rw [HK.out, H2.out]; rfl), rfl⟩
  · have H1 := Lib.hid (show betwB (s.size : Int) 1 40 = false by simpa using h1)
    have HK := Lib.hid (show keyB s = false by
      unfold betwB at h1
      simp only [Bool.and_eq_true, decide_eq_true_eq, not_and, Int.not_le] at h1
      unfold keyB
      by_cases h : 1 ≤ s.size
      · have := h1 (by omega)
        rw [decide_eq_false (show ¬ s.size ≤ 40 by omega)]; simp
      · rw [decide_eq_false h]; simp)
    clear h1
    go_enter Tryz.func61, Tryz.ntmps61
    go_wp2_with fail
    refine (in_calls _ _ _ _).mono ?_
    rintro e w' ⟨rfl, rfl⟩
    rw [H1.out]
    go_wp2_with fail
    go_ret
    exact ⟨ret_bool HK.out.symm, rfl⟩

/-- The program's and the reference's order of a list. -/
theorem risF_key {ks : List ByteArray} {k : Nat} {s : ByteArray} (hk : ks[k]? = some s) (h : keyB s = false) : risF ks k = 5 := by
  have e : strAt ks k = s := by unfold strAt; rw [hk]; rfl
  unfold risF
  rw [e, h]
  simp [unlessE, firstE]
theorem risF_fall {ks : List ByteArray} {k : Nat} {s p : ByteArray} (hk : ks[k]? = some s) (hp : ks[k - 1]? = some p) (h : keyB s = true) (h0 : k ≠ 0) (hl : ltS p s = false) : risF ks k = 7 := by
  have e : strAt ks k = s := by unfold strAt; rw [hk]; rfl
  have e' : strAt ks (k - 1) = p := by unfold strAt; rw [hp]; rfl
  unfold risF
  rw [e, e', h, hl]
  simp [unlessE, firstE, h0]
theorem risF_ok {ks : List ByteArray} {k : Nat} {s : ByteArray} (hk : ks[k]? = some s) (h : keyB s = true) (hl : k = 0 ∨ ∃ p, ks[k - 1]? = some p ∧ ltS p s = true) : risF ks k = 0 := by
  have e : strAt ks k = s := by unfold strAt; rw [hk]; rfl
  unfold risF
  rw [e, h]
  rcases hl with rfl | ⟨p, hp, hl⟩
  · simp [unlessE, firstE]
  · have e' : strAt ks (k - 1) = p := by unfold strAt; rw [hp]; rfl
    rw [e', hl]
    simp [unlessE, firstE]

set_option maxRecDepth 100000 in
set_option maxHeartbeats 2000000 in
theorem risingR_calls (lo : Nat) (v : Value) (ks : List ByteArray) (w : World) (hv : Strs w lo v ks) (hk : ∀ k ∈ ks, k.size ≤ 1000) (hn : ks.length ≤ 1000000) :
    Calls Tryz.prog 117 #[v] w fun e w' => e = .returned (.int .i64 (errsTo (risF ks) ks.length)) ∧ w = w' := by
  rcases strs_at hv with ⟨rfl, rfl⟩ | ⟨g, off, cap, rfl, hlo, hg, hn', hcell⟩
  · clear hv hk
    go_enter Tryz.func117, Tryz.ntmps117
    go_wp2
    refine wp_loop_rounds 1 ?_
    rw [rounds_succ]
    go_wp2
    go_ret
    exact ⟨rfl, rfl⟩
  · have Hc := Lib.hid hcell
    have Hk := Lib.hid (show ∀ (i : Nat) (k : ByteArray), ks[i]? = some k → k.size ≤ 1000 from fun i k h => hk k (List.mem_of_getElem? h))
    clear hcell hv hk
    go_enter Tryz.func117, Tryz.ntmps117
    go_wp2_with fail
    go_loop [7] (fun i => ∃ k : Nat, k ≤ ks.length ∧ i = .int .i64 k ∧ Hid (∀ i, i < k → risF ks i = 0)) (fun i => ks.length - (intOf i).toNat)
    case atStart => exact ⟨0, Nat.zero_le _, rfl, Lib.hid fun i hi => by omega⟩
    case round =>
      obtain ⟨k, hk, rfl, H0⟩ := hrel
      by_cases hlt : k < ks.length
      · obtain ⟨s, hs⟩ : ∃ s, ks[k]? = some s := ⟨ks[k], List.getElem?_eq_getElem hlt⟩
        have hcs := Hc.out k s hs
        have hsz := Hk.out k s hs
        have Hs := Lib.hid hs
        have Hnext := Lib.hid (show risF ks k = 0 → ∀ i, i < k + 1 → risF ks i = 0 from fun h i hi => by
          rcases Nat.lt_succ_iff_lt_or_eq.1 hi with h' | rfl
          · exact H0.out i h'
          · exact h)
        have Hhit := Lib.hid (show risF ks k ≠ 0 → errsTo (risF ks) ks.length = risF ks k from fun h => errsTo_hit hlt H0.out h)
        clear hs
        by_cases hkey : keyB s = true
        · have HK := Lib.hid hkey
          clear hkey
          by_cases hz : k = 0
          · have Hgo := Lib.hid (Hnext.out (risF_ok Hs.out HK.out (.inl hz)))
            have hcs' : w.cell? ⟨g, off, none⟩ = some (.string s) := by have := hcs; rw [hz] at this; exact this
            go_wp2_with fail
            refine (keyR_calls s w (by omega)).mono ?_
            rintro e w' ⟨rfl, rfl⟩
            rw [HK.out]
            go_wp2_with fail
            go_round
            case rel => exact ⟨k + 1, by omega, by go_num, Hgo⟩
            case measure => simp [intOf]; omega
          · obtain ⟨p, hp⟩ : ∃ p, ks[k - 1]? = some p := ⟨_, List.getElem?_eq_getElem (show k - 1 < ks.length by omega)⟩
            have hcp := Hc.out (k - 1) p hp
            have Hp := Lib.hid hp
            have wr : IntKind.i64.wrap ((k : Int) - 1) = ((k - 1 : Nat) : Int) := by rw [IntWalk.i64_in _ (by omega)]; omega
            have wr2 : ((k - 1 : Nat) : Int) < (ks.length : Int) := by omega
            have Hz := Lib.hid hz
            clear hp
            by_cases hl : ltS p s = true
            · have e1 : (Op.bytesLess s.toList p.toList || s.toList == p.toList) = false := by rw [leS_eq, hl]; rfl
              have Hgo := Lib.hid (Hnext.out (risF_ok Hs.out HK.out (.inr ⟨p, Hp.out, hl⟩)))
              clear hl
              go_wp2_with fail
              refine (keyR_calls s w (by omega)).mono ?_
              rintro e w' ⟨rfl, rfl⟩
              rw [HK.out]
              go_wp2_with fail
              go_round
              case rel => exact ⟨k + 1, by omega, by go_num, Hgo⟩
              case measure => simp [intOf]; omega
            · have e1 : (Op.bytesLess s.toList p.toList || s.toList == p.toList) = true := by rw [leS_eq, show ltS p s = false by simpa using hl]; rfl
              have H7 := Lib.hid (risF_fall Hs.out Hp.out HK.out Hz.out (show ltS p s = false by simpa using hl))
              clear hl
              go_wp2_with fail
              refine (keyR_calls s w (by omega)).mono ?_
              rintro e w' ⟨rfl, rfl⟩
              rw [HK.out]
              go_wp2_with fail
              go_ret
              exact ⟨ret_int (by rw [Hhit.out (by rw [H7.out]; decide), H7.out]), rfl⟩
        · have HK := Lib.hid (show keyB s = false by simpa using hkey)
          clear hkey
          go_wp2_with fail
          refine (keyR_calls s w (by omega)).mono ?_
          rintro e w' ⟨rfl, rfl⟩
          rw [HK.out]
          go_wp2_with fail
          go_ret
          exact ⟨ret_int (by rw [Hhit.out (by rw [risF_key Hs.out HK.out]; decide), risF_key Hs.out HK.out]), rfl⟩
      · obtain rfl : k = ks.length := by omega
        go_wp2_with fail
        go_ret
        exact ⟨ret_int (errsTo_none H0.out).symm, rfl⟩
end Go.Proofs.YthlfjfmlmcoihaaGreat
namespace Go.Proofs.YthlfjfmlmcoihaaGreat
open Go.RowKit

theorem gcdI_step' (a b : Int) : gcdI b (a.tmod b) = gcdI a b := by rw [gcdI_comm, gcdI_step, gcdI_comm]
set_option maxRecDepth 100000 in
set_option maxHeartbeats 1000000 in
theorem divisorR_calls (n d : Int) (w : World) (hn : Int64 n) (ha : Int64 d) (h0 : 0 < d) :
    Calls Tryz.prog 118 #[.int .i64 n, .int .i64 d] w fun e w' => e = .returned (.int .i64 (gcdI n d)) ∧ Below w.heap.size w w' := by
  have HG := Lib.hid (gcdI_le (a := n) h0)
  have hG := Lib.hid (⟨gcdI n d, rfl⟩ : ∃ G, G = gcdI n d)
  obtain ⟨G, hG⟩ := hG.out
  rw [← hG] at HG ⊢
  have H1 := Lib.hid hG
  have Hn := Lib.hid hn
  have Ha := Lib.hid ha
  clear hG hn ha h0
  go_enter Tryz.func118, Tryz.ntmps118
  go_wp2_with fail
  go_loopw [0, 1] (fun t s wr => ∃ a b : Int, t = .int .i64 a ∧ s = .int .i64 b ∧ Hid (Int64 a ∧ Int64 b ∧ gcdI a b = G) ∧ Below w.heap.size w wr) (fun _ s _ => (intOf s).natAbs)
  case atStart => exact ⟨n, d, rfl, rfl, Lib.hid ⟨Hn.out, Ha.out, H1.out.symm⟩, Below.refl _ _⟩
  case round =>
    obtain ⟨a, b, rfl, rfl, H, hb⟩ := hrel
    by_cases hz : b = 0
    · subst hz
      have hb' : (a.natAbs : Int) = G := by rw [← H.out.2.2, gcdI_comm, gcdI_zero]
      have hr := Ha.out
      have hG := HG.out
      unfold Int64 at hr
      have hm : max a (-a) = G := by omega
      have Hm := Lib.hid hm
      clear hm
      go_wp2_with fail
      go_ret
      exact ⟨ret_int Hm.out, hb⟩
    · have hne : (b != 0) = true := by simp [hz]
      have hr := tmod_64 (b := a) hz H.out.2.1
      have Hs := Lib.hid (tmod_small b a hz)
      unfold Int64 at hr
      obtain ⟨hr1, hr2⟩ := hr
      have Hz := Lib.hid hz
      go_wp2_with fail
      go_region
      go_wp2_with fail
      go_roundw
      case rel => exact ⟨_, _, rfl, rfl, Lib.hid ⟨H.out.2.1, tmod_64 Hz.out H.out.2.1, (gcdI_step' a b).trans H.out.2.2⟩, hb.drew⟩
      case measure => simp only [intOf]; exact Hs.out

set_option maxRecDepth 100000 in
set_option maxHeartbeats 1000000 in
theorem lowest_calls (n d : Int) (w : World) (hn : Int64 n) (hd : Int64 d) (h0 : 0 < d) :
    Calls Tryz.prog 70 #[.int .i64 n, .int .i64 d] w fun e w' => e = .returned (frV (lowF n d)) ∧ Below w.heap.size w w' := by
  have hG := gcdI_pos (a := n) h0
  have hg1 := tdiv_64 hn hG
  have hg2 := tdiv_64 hd hG
  have H := Lib.hid (show frV (lowF n d) = .agg #[.int .i64 (n.tdiv (gcdI n d)), .int .i64 (d.tdiv (gcdI n d))] from rfl)
  have C := fun w => Lib.hid (divisorR_calls n d w hn hd h0)
  generalize gcdI n d = G at hG hg1 hg2 H C
  generalize lowF n d = L at H ⊢
  unfold Int64 at *
  have hne : G ≠ 0 := by omega
  have hb0 := below_alloc w (.cells #[.int .i64 0, .int .i64 0] 34)
  go_enter Tryz.func70, Tryz.ntmps70
  go_wp2_with fail
  refine (C _).out.mono ?_
  rintro e w' ⟨rfl, hb⟩
  have hx := cells_later (heap_alloc_new w _) hb
  have z0 := cell_at hx 0 rfl
  have z1 := cell_at hx 1 rfl
  have f0 := free_of hx 0
  have f1 := free_of hx 1
  have Hb := Lib.hid (below_step hb0 hb)
  clear hx hb hb0 C
  go_wp2_with fail
  go_region
  go_wp2_with fail
  try simp only [Exit.inBlock, Exit.then]
  refine bodyPost_ret (v := .agg #[.int .i64 (n.tdiv G), .int .i64 (d.tdiv G)]) ?_ rfl ⟨ret_val H.out.symm, ((Hb.out.drew).setCell (p := ⟨w.heap.size, 0, none⟩) (Nat.le_refl _) _).setCell (p := ⟨w.heap.size, 1, none⟩) (Nat.le_refl _) _⟩
  rw [results_cell1 rfl]
  go_simp
set_option maxHeartbeats 400000 in
theorem ofHundredthsR_calls (n : Int) (w : World) (hn : Int64 n) :
    Calls Tryz.prog 20 #[.int .i64 n] w fun e w' => e = .returned (frV (lowF n 100)) ∧ Below w.heap.size w w' := by
  have hb0 := below_alloc w (.cells #[.int .i64 0, .int .i64 0] 34)
  go_enter Tryz.func20, Tryz.ntmps20
  go_wp2_with fail
  refine (lowest_calls n 100 _ hn (by unfold Int64; omega) (by omega)).mono ?_
  rintro e w' ⟨rfl, hb⟩
  rw [show frV (lowF n 100) = .agg #[.int .i64 (lowF n 100).1, .int .i64 (lowF n 100).2] from rfl]
  have hx := cells_later (heap_alloc_new w _) hb
  have z0 := cell_at hx 0 rfl
  have z1 := cell_at hx 1 rfl
  have f0 := free_of hx 0
  have f1 := free_of hx 1
  have Hb := Lib.hid (below_step hb0 hb)
  clear hx hb hb0
  obtain ⟨L, hL⟩ : ∃ L, L = lowF n 100 := ⟨_, rfl⟩
  have HL := Lib.hid (show Ending.returned (.agg #[.int .i64 L.1, .int .i64 L.2]) = Ending.returned (frV (lowF n 100)) by rw [hL]; rfl)
  rw [← hL]
  clear hL
  go_wp2_with fail
  try simp only [Exit.inBlock, Exit.then]
  refine bodyPost_ret (v := .agg #[.int .i64 L.1, .int .i64 L.2]) ?_ rfl ⟨HL.out, (Hb.out.setCell (p := ⟨w.heap.size, 0, none⟩) (Nat.le_refl _) _).setCell (p := ⟨w.heap.size, 1, none⟩) (Nat.le_refl _) _⟩
  rw [results_cell1 rfl]
  go_simp
set_option maxHeartbeats 400000 in
theorem hundredthsR_calls (n d : Int) (w : World) (hd : 0 < d) (h1 : Int64 (n * ((100 : Int).tdiv d))) (h2 : d ≤ 100) :
    Calls Tryz.prog 71 #[frV (n, d)] w fun e w' => e = .returned (.int .i64 (n * ((100 : Int).tdiv d))) ∧ Below w.heap.size w w' := by
  unfold frV Int64 at *
  have hd0 : d ≠ 0 := by omega
  have h3 := tdiv_64 (show Int64 100 by unfold Int64; omega) hd
  unfold Int64 at h3
  go_enter Tryz.func71, Tryz.ntmps71
  go_wp2_with fail
  go_quiet (fail)
  go_wp2_with fail
  go_ret
  exact ⟨rfl, below_drewN (below_alloc w _) nq⟩

set_option maxRecDepth 100000 in
set_option maxHeartbeats 1000000 in
theorem pointsFault_calls (n d : Int) (w : World) (hn : Int64 n) (hd : Int64 d) :
    Calls Tryz.prog 65 #[frV (n, d), .int .i64 10000] w fun e w' => e = .returned (.int .i64 (wrongF n d 10000)) ∧ Below w.heap.size w w' := by
  have hb := below_alloc w (.cells #[.int .i64 n, .int .i64 d] 34)
  unfold frV
  by_cases h0 : d < 1
  · have HW := Lib.hid (show wrongF n d 10000 = 3 by unfold wrongF; rw [if_pos (Or.inl (by omega))])
    go_enter Tryz.func65, Tryz.ntmps65
    go_wp2_with fail
    go_ret
    exact ⟨ret_int HW.out.symm, hb⟩
  · have C := fun w => Lib.hid (divisorR_calls n d w hn hd (by omega))
    have Hd := Lib.hid hd
    have HS := fun (w' : World) (h : Below (w.alloc (.cells #[.int .i64 n, .int .i64 d] 34)).heap.size (w.alloc (.cells #[.int .i64 n, .int .i64 d] 34)) w') => Lib.hid (show w'.cell? ⟨w.heap.size, 0, none⟩ = some (.int .i64 n) ∧ w'.cell? ⟨w.heap.size, 1, none⟩ = some (.int .i64 d) ∧ Below w.heap.size w w' from ⟨cell_at (cells_later (heap_alloc_new w _) h) 0 rfl, cell_at (cells_later (heap_alloc_new w _) h) 1 rfl, below_step hb h⟩)
    have Hb := Lib.hid hb
    clear hb hd
    by_cases h1 : gcdI n d = 1
    · rw [h1] at C
      have H1 := Lib.hid h1
      clear h1
      by_cases h2 : (100 : Int) % d = 0
      · have h3 := den_100 h2
        by_cases h4 : n < -10000 * d
        · have HW := Lib.hid (show wrongF n d 10000 = 1 by have h1 := H1.out; unfold wrongF; rw [if_neg (by omega), if_pos (by omega)])
          clear hn
          go_enter Tryz.func65, Tryz.ntmps65
          go_wp2_with fail
          refine (C _).out.mono ?_
          rintro e w' ⟨rfl, hb⟩
          obtain ⟨z0, z1, hb⟩ := (HS w' hb).out
          go_wp2_with fail
          go_ret
          exact ⟨ret_int HW.out.symm, hb⟩
        · by_cases h5 : n > 10000 * d
          · have HW := Lib.hid (show wrongF n d 10000 = 1 by have h1 := H1.out; unfold wrongF; rw [if_neg (by omega), if_pos (by omega)])
            clear hn
            go_enter Tryz.func65, Tryz.ntmps65
            go_wp2_with fail
            refine (C _).out.mono ?_
            rintro e w' ⟨rfl, hb⟩
            obtain ⟨z0, z1, hb⟩ := (HS w' hb).out
            go_wp2_with fail
            go_ret
            exact ⟨ret_int HW.out.symm, hb⟩
          · have HW := Lib.hid (show wrongF n d 10000 = 0 by have h1 := H1.out; unfold wrongF; rw [if_neg (by omega), if_neg (by omega)])
            clear hn
            go_enter Tryz.func65, Tryz.ntmps65
            go_wp2_with fail
            refine (C _).out.mono ?_
            rintro e w' ⟨rfl, hb⟩
            obtain ⟨z0, z1, hb⟩ := (HS w' hb).out
            go_wp2_with fail
            go_ret
            exact ⟨ret_int HW.out.symm, hb⟩
      · have HW := Lib.hid (show wrongF n d 10000 = 1 by have h1 := H1.out; unfold wrongF; rw [if_neg (by omega), if_pos (by omega)])
        have h5 : ((100 : Int) % d != 0) = true := by simpa using h2
        have hr1 := Int.emod_nonneg 100 (show d ≠ 0 by omega)
        have hr2 := Int.emod_lt_of_pos 100 (show 0 < d by omega)
        have h6 : d ≠ 0 := by omega
        have hd2 : d ≤ 9223372036854775807 := Hd.out.2
        clear h2 hn
        go_enter Tryz.func65, Tryz.ntmps65
        go_wp2_with fail
        refine (C _).out.mono ?_
        rintro e w' ⟨rfl, hb⟩
        obtain ⟨z0, z1, hb⟩ := (HS w' hb).out
        go_wp2_with fail
        go_ret
        exact ⟨ret_int HW.out.symm, hb⟩
    · have HW := Lib.hid (show wrongF n d 10000 = 3 by unfold wrongF; rw [if_pos (Or.inr h1)])
      have h5 : (gcdI n d != 1) = true := by simpa using h1
      clear h1 hn
      generalize gcdI n d = G at C h5
      go_enter Tryz.func65, Tryz.ntmps65
      go_wp2_with fail
      refine (C _).out.mono ?_
      rintro e w' ⟨rfl, hb⟩
      obtain ⟨z0, z1, hb⟩ := (HS w' hb).out
      go_wp2_with fail
      go_ret
      exact ⟨ret_int HW.out.symm, hb⟩
end Go.Proofs.YthlfjfmlmcoihaaGreat
