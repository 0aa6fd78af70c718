/- check.Rising: keys that rise. -/
import Derived.Test.YtfcaokpadodijaaGreatMgag
import Derived.Test.YtfcaokpadodijaaGreatMgab
import Derived.Test.YtfcaokpadodijaaGreatMgaa
import Derived.Test.YtfcaokpadodijaaGreatMgac
import Derived.IntWalk
namespace Go.Proofs.YtfcaokpadodijaaGreat
open Go.RowKit

/-- String i of some. -/
def strAt (ks : List ByteArray) (i : Nat) : ByteArray := ks[i]?.getD ByteArray.empty
theorem strAt_some {ks : List ByteArray} {i : Nat} {k : ByteArray} (h : ks[i]? = some k) : strAt ks i = k := by simp [strAt, h]
/-- What is wrong with key i. -/
def risF (ks : List ByteArray) (i : Nat) : Int := firstE [unlessE (keyB (strAt ks i)) 5, unlessE (decide (i = 0) || ltS (strAt ks (i - 1)) (strAt ks i)) 7]
theorem below_step {W0 a b : World} (h : Below W0.heap.size W0 a) (k : Below a.heap.size a b) : Below W0.heap.size W0 b := h.trans (k.mono h.size)
theorem nums2 (w : World) (T : Nat) (a b : Int) : NumsAt (w.alloc (.cells #[.int .i64 a, .int .i64 b] T)) w.heap.size 0 [a, b] := by
 intro i x hx
 rw [World.cell?_alloc_at _ _ _ _ rfl]
 match i, hx with
 | 0, hx => simp at hx; subst hx; rfl
 | 1, hx => simp at hx; subst hx; rfl

set_option maxRecDepth 100000 in
set_option maxHeartbeats 2000000 in
theorem rising1_calls (c g off cap i : Nat) (ks : List ByteArray) (k : ByteArray) (W : World) (hi : ks[i]? = some k) (hk40 : k.size ≤ 1000000) (hn : ks.length ≤ 1000000)
  (h1 : W.cell? ⟨c, 0, none⟩ = some (.slice (some ⟨g, off, none⟩) ks.length cap)) (hc : ∀ (i : Nat) (k : ByteArray), ks[i]? = some k → W.cell? ⟨g, off + i, none⟩ = some (.string k)) :
  Calls Tryz.prog 135 #[.int .i64 (i : Int), .pointer (some ⟨c, 0, none⟩)] W (IntBelow (risF ks i) W) := by
 have hlt : i < ks.length := (List.getElem?_eq_some_iff.1 hi).1
 have g0 := hc i k hi
 have hbW := (Below.refl W.heap.size W).drew
 by_cases hz : i = 0
 ·have Hr := Lib.hid (show risF ks i = firstE [unlessE (keyB k) 5, unlessE true 7] by rw [risF, strAt_some hi, hz]; rfl)
  have HS : ∀ w', Below W.heap.size W w' → (Below W.heap.size W w' ∧ w'.cell? ⟨c, 0, none⟩ = some (.slice (some ⟨g, off, none⟩) ks.length cap) ∧ w'.cell? ⟨g, off + i, none⟩ = some (.string k)) := fun w' hb => ⟨hb, below_cell hb h1, below_cell hb g0⟩
  have e0 : ((i : Int) == 0) = true := by rw [beq_iff_eq]; omega
  have HS := Lib.hid HS; clear hz hc hi h1 g0; go_enter Tryz.func135, Tryz.ntmps135; go_wp2_with fail
  refine wp_region_held_drew (S := fun w' => Below W.heap.size W w' ∧ w'.cell? ⟨c, 0, none⟩ = some (.slice (some ⟨g, off, none⟩) ks.length cap) ∧ w'.cell? ⟨g, off + i, none⟩ = some (.string k)) (by kernel_rfl) ?_ (fun hHeld => ?_)
  ·(exact HS.out _ (by first | assumption | exact hHeld.1 | exact below_step hHeld.1 (below_alloc _ _)))
  refine take_at 0 4 (v := ?_) rfl rfl (by kernel_rfl) (by kernel_rfl) (by kernel_rfl) (fun _ _ _ h => h) (by rfl) ?y0 (by assumption) ?r0
  case y0 => intro w h; (try dsimp only at h); go_simp; try with_reducible rfl
  simp only [sE0, sE1]; refine take_at 1 5 (v := ?_) rfl rfl (by kernel_rfl) (by kernel_rfl) (by kernel_rfl) (fun _ _ _ h => h) (by rfl) ?y1 (by assumption) ?r1
  case y1 => intro w h; (try dsimp only at h); go_simp; try with_reducible rfl
  simp only [sE0, sE1]; refine take_at 2 6 (v := ?_) rfl rfl (by kernel_rfl) (by kernel_rfl) (by kernel_rfl) (fun _ _ _ h => h) (by rfl) ?y2 (by assumption) ?r2
  case y2 => intro w h; (try dsimp only at h); go_simp; try with_reducible rfl
  simp only [sE0, sE1]; refine take_at 3 7 (v := ?_) rfl rfl (by kernel_rfl) (by kernel_rfl) (by kernel_rfl) (fun _ _ _ h => h) (by rfl) ?y3 (by assumption) ?r3
  case y3 => intro w h; (try dsimp only at h); go_simp; try with_reducible rfl
  simp only [sE0, sE1]; refine take_at 6 10 (v := ?_) rfl rfl (by kernel_rfl) (by kernel_rfl) (by kernel_rfl) (fun _ _ _ h => h) (by rfl) ?y6 (by assumption) ?r6
  case y6 => intro w h; (try dsimp only at h); go_simp; try with_reducible rfl
  simp only [sE0, sE1]; refine take_at 7 11 (v := ?_) rfl rfl (by kernel_rfl) (by kernel_rfl) (by kernel_rfl) (fun _ _ _ h => h) (by rfl) ?y7 (by assumption) ?r7
  case y7 => intro w h; (try dsimp only at h); go_simp; try with_reducible rfl
  simp only [sE0, sE1]; refine run_at 4 rfl (by kernel_rfl) (by rfl) (fun K hK => ?_)
  go_simp; refine (key_calls k _ hk40).mono ?_; rintro e w' ⟨rfl, rfl⟩; go_wp2_with fail
  refine hK.out _ _ ?_ (fun hHeld => ?_)
  ·(exact HS.out _ (by first | assumption | exact hHeld.1 | exact below_step hHeld.1 (below_alloc _ _)))
  clear hK K; try simp only [Act.put, sEt, sE0, sE1]
  refine run_at 5 rfl (by kernel_rfl) (by rfl) (fun K hK => ?_)
  go_simp; refine (unless_calls _ _ _).mono ?_; rintro e w' ⟨rfl, rfl⟩; go_wp2_with fail
  refine hK.out _ _ ?_ (fun hHeld => ?_)
  ·(exact HS.out _ (by first | assumption | exact hHeld.1 | exact below_step hHeld.1 (below_alloc _ _)))
  clear hK K; try simp only [Act.put, sEt, sE0, sE1]
  refine take_at 8 12 (v := ?_) rfl rfl (by kernel_rfl) (by kernel_rfl) (by kernel_rfl) (fun _ _ _ h => h) (by rfl) ?y8 (by assumption) ?r8
  case y8 => intro w h; (try dsimp only at h); go_simp; try with_reducible rfl
  simp only [sE0, sE1]; refine skip_at 9 13 rfl rfl (by kernel_rfl) (by kernel_rfl) (by kernel_rfl) (fun _ _ _ h => h) (by rfl) (by assumption) ?_
  simp only [sE0, sE1]; refine skip_at 10 14 rfl rfl (by kernel_rfl) (by kernel_rfl) (by kernel_rfl) (fun _ _ _ h => h) (by rfl) (by assumption) ?_
  simp only [sE0, sE1]; refine skip_at 11 15 rfl rfl (by kernel_rfl) (by kernel_rfl) (by kernel_rfl) (fun _ _ _ h => h) (by rfl) (by assumption) ?_
  simp only [sE0, sE1]; refine skip_at 12 16 rfl rfl (by kernel_rfl) (by kernel_rfl) (by kernel_rfl) (fun _ _ _ h => h) (by rfl) (by assumption) ?_
  simp only [sE0, sE1]; refine skip_at 13 17 rfl rfl (by kernel_rfl) (by kernel_rfl) (by kernel_rfl) (fun _ _ _ h => h) (by rfl) (by assumption) ?_
  simp only [sE0, sE1]; refine skip_at 14 18 rfl rfl (by kernel_rfl) (by kernel_rfl) (by kernel_rfl) (fun _ _ _ h => h) (by rfl) (by assumption) ?_
  simp only [sE0, sE1]; refine skip_at 15 19 rfl rfl (by kernel_rfl) (by kernel_rfl) (by kernel_rfl) (fun _ _ _ h => h) (by rfl) (by assumption) ?_
  simp only [sE0, sE1]; refine skip_at 16 20 rfl rfl (by kernel_rfl) (by kernel_rfl) (by kernel_rfl) (fun _ _ _ h => h) (by rfl) (by assumption) ?_
  simp only [sE0, sE1]; refine skip_at 17 21 rfl rfl (by kernel_rfl) (by kernel_rfl) (by kernel_rfl) (fun _ _ _ h => h) (by rfl) (by assumption) ?_
  simp only [sE0, sE1]; refine skip_at 18 22 rfl rfl (by kernel_rfl) (by kernel_rfl) (by kernel_rfl) (fun _ _ _ h => h) (by rfl) (by assumption) ?_
  simp only [sE0, sE1]; refine take_at 19 23 (v := ?_) rfl rfl (by kernel_rfl) (by kernel_rfl) (by kernel_rfl) (fun _ _ _ h => h) (by rfl) ?y19 (by assumption) ?r19
  case y19 => intro w h; (try dsimp only at h); go_simp; try with_reducible rfl
  simp only [sE0, sE1]; refine run_at 20 rfl (by kernel_rfl) (by rfl) (fun K hK => ?_)
  go_simp; refine (unless_calls _ _ _).mono ?_; rintro e w' ⟨rfl, rfl⟩; go_wp2_with fail
  refine hK.out _ _ ?_ (fun hHeld => ?_)
  ·(exact HS.out _ (by first | assumption | exact hHeld.1 | exact below_step hHeld.1 (below_alloc _ _)))
  clear hK K; try simp only [Act.put, sEt, sE0, sE1]
  refine run_at 21 rfl (by kernel_rfl) (by rfl) (fun K hK => ?_)
  go_simp; refine hK.out _ _ ?_ (fun hHeld => ?_)
  ·(exact HS.out _ (by first | assumption | exact hHeld.1 | exact below_step hHeld.1 (below_alloc _ _)))
  clear hK K; try simp only [Act.put, sEt, sE0, sE1]
  refine run_at 22 rfl (by kernel_rfl) (by rfl) (fun K hK => ?_)
  go_simp; refine (orE_calls W.heap.size 0 2 [unlessE (keyB k) 5, unlessE true 7] _ (by simp) (by exact nums2 W _ _ _)).mono ?_
  rintro e w' ⟨rfl, rfl⟩; go_wp2_with fail
  refine hK.out _ _ ?_ (fun hHeld => ?_)
  ·(exact HS.out _ (by first | assumption | exact hHeld.1 | exact below_step hHeld.1 (below_alloc _ _)))
  clear hK K; try simp only [Act.put, sEt, sE0, sE1]
  refine take_at 23 3 (v := ?_) rfl rfl (by kernel_rfl) (by kernel_rfl) (by kernel_rfl) (fun _ _ _ h => h) (by rfl) ?y23 (by assumption) ?r23
  case y23 => intro w h; (try dsimp only at h); go_simp; try with_reducible rfl
  simp only [sE0, sE1]; refine wpAnyH_done (by kernel_rfl) ?_ _
  go_wp2_with fail
  go_ret
  exact ⟨ret_int Hr.out.symm, hHeld.1⟩
 ·obtain ⟨kp, hkp⟩ : ∃ kp, ks[i - 1]? = some kp := ⟨_, List.getElem?_eq_getElem (show i - 1 < ks.length by omega)⟩
  have Hr := Lib.hid (show risF ks i = firstE [unlessE (keyB k) 5, unlessE (ltS kp k) 7] by rw [risF, strAt_some hi, strAt_some hkp]; simp [hz])
  have g1 := hc (i - 1) kp hkp; have HS : ∀ w', Below W.heap.size W w' → (Below W.heap.size W w' ∧ w'.cell? ⟨c, 0, none⟩ = some (.slice (some ⟨g, off, none⟩) ks.length cap) ∧ w'.cell? ⟨g, off + i, none⟩ = some (.string k) ∧ w'.cell? ⟨g, off + (i - 1), none⟩ = some (.string kp)) := fun w' hb => ⟨hb, below_cell hb h1, below_cell hb g0, below_cell hb g1⟩
  have e0 : ((i : Int) == 0) = false := by rw [beq_eq_false_iff_ne]; omega
  have w1 : IntKind.i64.wrap ((i : Int) - 1) = ((i - 1 : Nat) : Int) := by rw [IntWalk.i64_in _ (by omega)]; omega
  have w2 : ((i - 1 : Nat) : Int) < (ks.length : Int) := by omega
  have HS := Lib.hid HS; clear hz hc hi h1 g0 g1 hkp; go_enter Tryz.func135, Tryz.ntmps135; go_wp2_with fail
  refine wp_region_held_drew (S := fun w' => Below W.heap.size W w' ∧ w'.cell? ⟨c, 0, none⟩ = some (.slice (some ⟨g, off, none⟩) ks.length cap) ∧ w'.cell? ⟨g, off + i, none⟩ = some (.string k) ∧ w'.cell? ⟨g, off + (i - 1), none⟩ = some (.string kp)) (by kernel_rfl) ?_ (fun hHeld => ?_)
  ·(exact HS.out _ (by first | assumption | exact hHeld.1 | exact below_step hHeld.1 (below_alloc _ _)))
  refine take_at 0 4 (v := ?_) rfl rfl (by kernel_rfl) (by kernel_rfl) (by kernel_rfl) (fun _ _ _ h => h) (by rfl) ?y0b (by assumption) ?r0b
  case y0b => intro w h; (try dsimp only at h); go_simp; try with_reducible rfl
  simp only [sE0, sE1]; refine take_at 1 5 (v := ?_) rfl rfl (by kernel_rfl) (by kernel_rfl) (by kernel_rfl) (fun _ _ _ h => h) (by rfl) ?y1b (by assumption) ?r1b
  case y1b => intro w h; (try dsimp only at h); go_simp; try with_reducible rfl
  simp only [sE0, sE1]; refine take_at 2 6 (v := ?_) rfl rfl (by kernel_rfl) (by kernel_rfl) (by kernel_rfl) (fun _ _ _ h => h) (by rfl) ?y2b (by assumption) ?r2b
  case y2b => intro w h; (try dsimp only at h); go_simp; try with_reducible rfl
  simp only [sE0, sE1]; refine take_at 3 7 (v := ?_) rfl rfl (by kernel_rfl) (by kernel_rfl) (by kernel_rfl) (fun _ _ _ h => h) (by rfl) ?y3b (by assumption) ?r3b
  case y3b => intro w h; (try dsimp only at h); go_simp; try with_reducible rfl
  simp only [sE0, sE1]; refine take_at 6 10 (v := ?_) rfl rfl (by kernel_rfl) (by kernel_rfl) (by kernel_rfl) (fun _ _ _ h => h) (by rfl) ?y6b (by assumption) ?r6b
  case y6b => intro w h; (try dsimp only at h); go_simp; try with_reducible rfl
  simp only [sE0, sE1]; refine take_at 7 11 (v := ?_) rfl rfl (by kernel_rfl) (by kernel_rfl) (by kernel_rfl) (fun _ _ _ h => h) (by rfl) ?y7b (by assumption) ?r7b
  case y7b => intro w h; (try dsimp only at h); go_simp; try with_reducible rfl
  simp only [sE0, sE1]; refine run_at 4 rfl (by kernel_rfl) (by rfl) (fun K hK => ?_)
  go_simp; refine (key_calls k _ hk40).mono ?_; rintro e w' ⟨rfl, rfl⟩; go_wp2_with fail
  refine hK.out _ _ ?_ (fun hHeld => ?_)
  ·(exact HS.out _ (by first | assumption | exact hHeld.1 | exact below_step hHeld.1 (below_alloc _ _)))
  clear hK K; try simp only [Act.put, sEt, sE0, sE1]
  refine run_at 5 rfl (by kernel_rfl) (by rfl) (fun K hK => ?_)
  go_simp; refine (unless_calls _ _ _).mono ?_; rintro e w' ⟨rfl, rfl⟩; go_wp2_with fail
  refine hK.out _ _ ?_ (fun hHeld => ?_)
  ·(exact HS.out _ (by first | assumption | exact hHeld.1 | exact below_step hHeld.1 (below_alloc _ _)))
  clear hK K; try simp only [Act.put, sEt, sE0, sE1]
  refine take_at 8 12 (v := ?_) rfl rfl (by kernel_rfl) (by kernel_rfl) (by kernel_rfl) (fun _ _ _ h => h) (by rfl) ?y8b (by assumption) ?r8b
  case y8b => intro w h; (try dsimp only at h); go_simp; try with_reducible rfl
  simp only [sE0, sE1]; refine take_at 9 13 (v := ?_) rfl rfl (by kernel_rfl) (by kernel_rfl) (by kernel_rfl) (fun _ _ _ h => h) (by rfl) ?y9b (by assumption) ?r9b
  case y9b => intro w h; (try dsimp only at h); go_simp; try with_reducible rfl
  simp only [sE0, sE1]; refine take_at 10 14 (v := ?_) rfl rfl (by kernel_rfl) (by kernel_rfl) (by kernel_rfl) (fun _ _ _ h => h) (by rfl) ?y10b (by assumption) ?r10b
  case y10b => intro w h; (try dsimp only at h); go_simp; try with_reducible rfl
  simp only [sE0, sE1]; refine take_at 11 15 (v := ?_) rfl rfl (by kernel_rfl) (by kernel_rfl) (by kernel_rfl) (fun _ _ _ h => h) (by rfl) ?y11b (by assumption) ?r11b
  case y11b => intro w h; (try dsimp only at h); go_simp; try with_reducible rfl
  simp only [sE0, sE1]; refine take_at 12 16 (v := ?_) rfl rfl (by kernel_rfl) (by kernel_rfl) (by kernel_rfl) (fun _ _ _ h => h) (by rfl) ?y12b (by assumption) ?r12b
  case y12b => intro w h; (try dsimp only at h); go_simp; try with_reducible rfl
  simp only [sE0, sE1]; refine take_at 13 17 (v := ?_) rfl rfl (by kernel_rfl) (by kernel_rfl) (by kernel_rfl) (fun _ _ _ h => h) (by rfl) ?y13b (by assumption) ?r13b
  case y13b => intro w h; (try dsimp only at h); go_simp; try with_reducible rfl
  simp only [sE0, sE1]; refine take_at 14 18 (v := ?_) rfl rfl (by kernel_rfl) (by kernel_rfl) (by kernel_rfl) (fun _ _ _ h => h) (by rfl) ?y14b (by assumption) ?r14b
  case y14b => intro w h; (try dsimp only at h); go_simp; try with_reducible rfl
  simp only [sE0, sE1]; refine take_at 15 19 (v := ?_) rfl rfl (by kernel_rfl) (by kernel_rfl) (by kernel_rfl) (fun _ _ _ h => h) (by rfl) ?y15b (by assumption) ?r15b
  case y15b => intro w h; (try dsimp only at h); go_simp; try with_reducible rfl
  simp only [sE0, sE1]; refine take_at 16 20 (v := ?_) rfl rfl (by kernel_rfl) (by kernel_rfl) (by kernel_rfl) (fun _ _ _ h => h) (by rfl) ?y16b (by assumption) ?r16b
  case y16b => intro w h; (try dsimp only at h); go_simp; try with_reducible rfl
  simp only [sE0, sE1]; refine take_at 17 21 (v := ?_) rfl rfl (by kernel_rfl) (by kernel_rfl) (by kernel_rfl) (fun _ _ _ h => h) (by rfl) ?y17b (by assumption) ?r17b
  case y17b => intro w h; (try dsimp only at h); go_simp; try with_reducible rfl
  simp only [sE0, sE1]; refine take_at 18 22 (v := ?_) rfl rfl (by kernel_rfl) (by kernel_rfl) (by kernel_rfl) (fun _ _ _ h => h) (by rfl) ?y18b (by assumption) ?r18b
  case y18b => intro w h; (try dsimp only at h); go_simp; try with_reducible rfl
  simp only [sE0, sE1]; refine take_at 19 23 (v := ?_) rfl rfl (by kernel_rfl) (by kernel_rfl) (by kernel_rfl) (fun _ _ _ h => h) (by rfl) ?y19b (by assumption) ?r19b
  case y19b => intro w h; (try dsimp only at h); go_simp; try with_reducible rfl
  simp only [sE0, sE1]; refine run_at 20 rfl (by kernel_rfl) (by rfl) (fun K hK => ?_)
  go_simp; refine (unless_calls _ _ _).mono ?_; rintro e w' ⟨rfl, rfl⟩; go_wp2_with fail
  refine hK.out _ _ ?_ (fun hHeld => ?_)
  ·(exact HS.out _ (by first | assumption | exact hHeld.1 | exact below_step hHeld.1 (below_alloc _ _)))
  clear hK K; try simp only [Act.put, sEt, sE0, sE1]
  refine run_at 21 rfl (by kernel_rfl) (by rfl) (fun K hK => ?_)
  go_simp; refine hK.out _ _ ?_ (fun hHeld => ?_)
  ·(exact HS.out _ (by first | assumption | exact hHeld.1 | exact below_step hHeld.1 (below_alloc _ _)))
  clear hK K; try simp only [Act.put, sEt, sE0, sE1]
  refine run_at 22 rfl (by kernel_rfl) (by rfl) (fun K hK => ?_)
  go_simp; refine (orE_calls W.heap.size 0 2 [unlessE (keyB k) 5, unlessE (Op.bytesLess kp.toList k.toList) 7] _ (by simp) (by exact nums2 W _ _ _)).mono ?_
  rintro e w' ⟨rfl, rfl⟩; go_wp2_with fail
  refine hK.out _ _ ?_ (fun hHeld => ?_)
  ·(exact HS.out _ (by first | assumption | exact hHeld.1 | exact below_step hHeld.1 (below_alloc _ _)))
  clear hK K; try simp only [Act.put, sEt, sE0, sE1]
  refine take_at 23 3 (v := ?_) rfl rfl (by kernel_rfl) (by kernel_rfl) (by kernel_rfl) (fun _ _ _ h => h) (by rfl) ?y23b (by assumption) ?r23b
  case y23b => intro w h; (try dsimp only at h); go_simp; try with_reducible rfl
  simp only [sE0, sE1]; refine wpAnyH_done (by kernel_rfl) ?_ _
  go_wp2_with fail
  go_ret
  exact ⟨ret_int Hr.out.symm, hHeld.1⟩
end Go.Proofs.YtfcaokpadodijaaGreat
