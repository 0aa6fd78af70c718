/- ClubsMeet: the law's walk. -/
import Derived.Test.YtiedmbgdmafhaaaGreatDoorFe
import Derived.Test.YtiedmbgdmafhaaaGreatDoorLaw3
namespace Go.Proofs.YtiedmbgdmafhaaaGreatDoor
open Go.RowKit

theorem own_fxs {w : World} {base : Nat} {v : Value} {fs : List FD} (h : OwnFx w base v fs) (hn : fs.length ≤ 1000000) : Fxs w base v fs :=
  Rows.of_owns (rows := fs.map fxRow) (by rw [List.length_map]; exact h) (by simpa using hn) (by simp [fxRow])
def C_none : ByteArray := ⟨#[110, 111, 110, 101]⟩
theorem meets_small : ∀ k ∈ [C_red, C_blue', C_pink, C_none, K_none], k.size ≤ 1000 := by decide +kernel
set_option maxRecDepth 100000 in
set_option maxHeartbeats 8000000 in
theorem law5 (lv : Value) (w : World) (hl : Tape w lv) (hG : Glob w) : Calls Tryz.prog 5 #[lv] w (BoolIs true w) := by
  have hs1 := hl.stm 25
  obtain ⟨la, ln, lc, rfl⟩ := hl.shape
  have HG := Lib.hid hG
  clear hl hG
  go_enter Tryz.func5, Tryz.ntmps5
  go_wp2_with fail
  refine (fixtures_calls w.heap.size 0 _ hs1 (by omega)).mono ?_
  rintro e w2 ⟨vf, ⟨fs, hF, hfl, hfok⟩, rfl, hs2, hg2⟩
  have hb2 : Below w.heap.size w w2 := (below_alloc w _).grown hg2 (by simp) (fun r hr => by cases hr; exact Nat.le_refl _)
  have HO := Lib.hid hfok
  obtain ⟨fa, fc, rfl⟩ := fxs_shape hF
  clear hs1 hg2 hfok
  go_wp2_with fail
  refine (some_calls w.heap.size _ w2.heap.size _ [C_red, C_blue', C_pink, C_none, K_none] _ (hs2.alloc _) (by omega) (strs_new w2 [C_red, C_blue', C_pink, C_none, K_none] (by decide)) hs2.lt (by simp)).mono ?_
  rintro e w4 ⟨v, ⟨club, rfl, hclub⟩, rfl, hs4, hg4⟩
  have Hclub := Lib.hid (meets_small _ hclub)
  clear hclub
  go_wp2_with fail
  refine (aweek_calls w.heap.size _ w4 hs4 (by omega)).mono ?_
  rintro e w6 ⟨v, ⟨m, rfl, hr0, hr61⟩, rfl, hs6, hg6⟩
  have hg26 : w2.grownBy w6 (some w.heap.size) := gb_trans (gb_alloc w2 _ _) (gb_trans hg4 hg6)
  obtain ⟨cur2, hB2⟩ := st_cells hs2
  have hF6 : Fxs w6 _ (.slice fa fs.length fc) fs := Rows.row hF hg26 fun r hr => ⟨cur2, _, _, by cases hr; exact hB2, by decide⟩
  have hb6 := hb2.grown hg26 hb2.size (fun r hr => by cases hr; exact Nat.le_refl _)
  have HF := Lib.hid (show ∀ w', Below w6.heap.size w6 w' → Fxs w' _ (.slice fa fs.length fc) fs ∧ Glob w' from fun w' hb => ⟨hF6.below hb, (HG.out.below hb6).below hb⟩)
  have HB6 := Lib.hid hb6
  have hfn : fs.length ≤ 10000 := by omega
  have hcs : club.size ≤ 1000000 := Nat.le_trans Hclub.out (by omega)
  have HE := Lib.hid (gamesE_eq fs club m)
  have HQ := Lib.hid (idleE_eq fs m)
  have HT := Lib.hid (show gamesE fs club m = 0 → gamesR fs club m = fs.filter (meets m club) from fun h => by unfold gamesR; rw [if_pos h])
  have HT0 := Lib.hid (show gamesE fs club m ≠ 0 → gamesR fs club m = [] from fun h => by unfold gamesR; rw [if_neg h])
  have HU := Lib.hid (fun h => idleR_eq (fs := fs) (week := m) h)
  have HU0 := Lib.hid (show idleE fs m ≠ 0 → idleR fs m = [] from fun h => by unfold idleR; rw [if_neg h])
  have HL1 := Lib.hid (show (gamesR fs club m).length ≤ 1000000 by have := gamesR_le fs club m; omega)
  have HL2 := Lib.hid (show (idleR fs m).length ≤ 1000000 by have := idleR_le fs m; omega)
  have HK := Lib.hid (chkFx_eq fs)
  have C1 := Lib.hid (fun w' hb => games_calls _ _ fs club m w' (HF.out w' hb).1 HO.out hfn hcs)
  have C2 := Lib.hid (fun w' hb => idle_calls _ _ fs m w' (HF.out w' hb).1 HO.out hfn)
  have C3 := Lib.hid (fun w' hb => fixturesFault_calls _ _ fs w' (HF.out w' hb).1 HO.out hfn)
  have C4 := Lib.hid (fun w' hb => checkFixtures_calls _ _ fs w' (HF.out w' hb).1 HO.out (by omega))
  have C6 := Lib.hid (fun w' hb => gamesOf_calls _ _ fs club m w' (HF.out w' hb).1 hfn)
  have C7 := Lib.hid (fun w' hb => idleOf_calls _ _ fs m w' (HF.out w' hb).1 hfn)
  have C10 := Lib.hid (fun w' hb => listed_calls w' (HF.out w' hb).2)
  clear hs2 hs4 hs6 hg4 hg6 hg26 hB2 cur2 hF hF6 hb2 hb6
  rw [HK.out] at C4
  generalize gamesE fs club m = E1 at HE HT HT0 C1
  generalize idleE fs m = E2 at HQ HU HU0 C2
  generalize gamesR fs club m = R1 at HT HT0 C1 HL1
  generalize idleR fs m = R2 at HU HU0 C2 HL2
  generalize refFx fs = X at HE HQ C3 C4
  clear HK
  go_wp2_with fail
  refine (C1.out w6 (Below.refl _ _)).mono ?_
  rintro e w7 ⟨vg, hvg, rfl, hb7⟩
  obtain ⟨ga, gc, rfl⟩ := owns_shape hvg
  have hg7 : Fxs w7 w6.heap.size (.slice ga R1.length gc) R1 := own_fxs hvg HL1.out
  clear hvg
  go_wp2_with fail
  refine (C2.out w7 hb7).mono ?_
  rintro e w8 ⟨vq, hq8, rfl, hb8⟩
  obtain ⟨qa, qc, rfl⟩ := strs_shape hq8
  have hg8 := hg7.below hb8
  have hb8 := below_step hb7 hb8
  clear hg7 hb7
  go_wp2_with fail
  refine (C3.out w8 hb8).mono ?_
  rintro e w9 ⟨rfl, hb9⟩
  have hg9 := hg8.below hb9
  have hq9 := hq8.below hb9
  have hb9 := below_step hb8 hb9
  clear hg8 hq8 hb8
  go_wp2_with fail
  refine (nameFault_calls club _ hcs).mono ?_
  rintro e w' ⟨rfl, rfl⟩
  go_wp2_with fail
  refine (weekFault_calls _ _).mono ?_
  rintro e w' ⟨rfl, rfl⟩
  go_wp2_with fail
  refine (errs_calls _ 0 3 [X, unlessE (keyB club) 5, unlessE (betwB m 1 60) 1] _ (by simp) (by exact nums3 _ _ _ _ _)).mono ?_
  rintro e w10 ⟨rfl, hw10⟩
  rw [← HE.out]
  have hg10 := hg9.below (below_alloc w9 (.cells #[.int .i64 X, .int .i64 (unlessE (keyB club) 5), .int .i64 (unlessE (betwB m 1 60) 1)] 32))
  have hq10 := hq9.below (below_alloc w9 (.cells #[.int .i64 X, .int .i64 (unlessE (keyB club) 5), .int .i64 (unlessE (betwB m 1 60) 1)] 32))
  have hb10 := below_step hb9 (below_alloc w9 (.cells #[.int .i64 X, .int .i64 (unlessE (keyB club) 5), .int .i64 (unlessE (betwB m 1 60) 1)] 32))
  rw [hw10] at hg10 hq10 hb10
  clear hw10 hg9 hq9 hb9
  go_wp2_with fail
  refine (weekFault_calls _ _).mono ?_
  rintro e w' ⟨rfl, rfl⟩
  go_wp2_with fail
  refine (errs_calls _ 0 2 [X, unlessE (betwB m 1 60) 1] _ (by simp) (by exact nums2 _ _ _ _)).mono ?_
  rintro e w11 ⟨rfl, hw11⟩
  rw [← HQ.out]
  have hg11 := hg10.below (below_alloc w10 (.cells #[.int .i64 X, .int .i64 (unlessE (betwB m 1 60) 1)] 32))
  have hq11 := hq10.below (below_alloc w10 (.cells #[.int .i64 X, .int .i64 (unlessE (betwB m 1 60) 1)] 32))
  have hb11 := below_step hb10 (below_alloc w10 (.cells #[.int .i64 X, .int .i64 (unlessE (betwB m 1 60) 1)] 32))
  rw [hw11] at hg11 hq11 hb11
  clear hw11 hg10 hq10 hb10
  by_cases hz1 : E1 = 0
  · have e1 : (E1 == 0) = true := by simp [hz1]
    have HR := Lib.hid (HT.out hz1)
    clear hz1
    go_wp2_with fail
    refine (C6.out w11 hb11).mono ?_
    rintro e w12 ⟨vx, hx12, rfl, hb12⟩
    rw [← HR.out] at hx12
    obtain ⟨xa, xc, rfl⟩ := fxs_shape hx12
    have hg12 := hg11.below hb12
    have hq12 := hq11.below hb12
    have hb12 := below_step hb11 hb12
    clear hg11 hq11 hb11
    by_cases hz2 : E2 = 0
    · have e2 : (E2 == 0) = true := by simp [hz2]
      have HV2 := Lib.hid (HU.out hz2)
      clear hz2
      go_wp2_with fail
      refine (C7.out w12 hb12).mono ?_
      rintro e w13 ⟨vw, hvw, rfl, hb13⟩
      rw [← HV2.out] at hvw
      obtain ⟨wa, wc, rfl⟩ := owns_shape hvw
      have hy13 := strs_of_owns hvw HL2.out
      have hg13 := hg12.below hb13
      have hq13 := hq12.below hb13
      have hx13 := hx12.below hb13
      have hb13 := below_step hb12 hb13
      clear hg12 hq12 hx12 hb12 hvw
      go_wp2_with fail
      refine (C4.out w13 hb13).mono ?_
      rintro e w14 ⟨rfl, hb14⟩
      have hg14 := hg13.below hb14
      have hq14 := hq13.below hb14
      have hx14 := hx13.below hb14
      have hy14 := hy13.below hb14
      have hb14 := below_step hb13 hb14
      clear hg13 hq13 hx13 hy13 hb13
      go_wp2_with fail
      refine (equalFx_calls _ _ _ _ R1 R1 w14 hg14 hx14 HL1.out HL1.out).mono ?_
      rintro e w15 ⟨rfl, hb15⟩
      rw [decide_eq_true rfl]
      have hq15 := hq14.below hb15
      have hy15 := hy14.below hb15
      have hb15 := below_step hb14 hb15
      clear hg14 hq14 hx14 hy14 hb14
      go_wp2_with fail
      refine (equal_calls _ _ _ _ R2 R2 w15 hq15 hy15 HL2.out HL2.out).mono ?_
      rintro e w16 ⟨rfl, hb16⟩
      rw [decide_eq_true rfl]
      have hb16 := below_step hb15 hb16
      clear hq15 hy15 hb15
      go_wp2_with fail
      refine (C10.out w16 hb16).mono ?_
      rintro e w17 ⟨rfl, hb17⟩
      go_wp2_with fail
      go_ret
      exact ⟨rfl, below_step HB6.out (below_step hb16 hb17)⟩
    · have e2 : (E2 == 0) = false := by simp [hz2]
      have HV2 := Lib.hid (HU0.out hz2)
      clear hz2
      obtain ⟨w13, h13⟩ : ∃ w13, w13 = w12 := ⟨_, rfl⟩
      have hg13 := hg12
      have hq13 := hq12
      have hx13 := hx12
      have hb13 := hb12
      rw [← h13] at hg13 hq13 hx13 hb13 ⊢
      have hy13 : Strs w13 w6.heap.size (.slice none 0 0) [] := ⟨by simp, by simp, .inl ⟨rfl, rfl⟩⟩
      rw [← HV2.out] at hy13
      clear hg12 hq12 hx12 hb12 h13
      go_wp2_with fail
      refine (C4.out w13 hb13).mono ?_
      rintro e w14 ⟨rfl, hb14⟩
      have hg14 := hg13.below hb14
      have hq14 := hq13.below hb14
      have hx14 := hx13.below hb14
      have hy14 := hy13.below hb14
      have hb14 := below_step hb13 hb14
      clear hg13 hq13 hx13 hy13 hb13
      go_wp2_with fail
      refine (equalFx_calls _ _ _ _ R1 R1 w14 hg14 hx14 HL1.out HL1.out).mono ?_
      rintro e w15 ⟨rfl, hb15⟩
      rw [decide_eq_true rfl]
      have hq15 := hq14.below hb15
      have hy15 := hy14.below hb15
      have hb15 := below_step hb14 hb15
      clear hg14 hq14 hx14 hy14 hb14
      go_wp2_with fail
      refine (equal_calls _ _ _ _ R2 R2 w15 hq15 hy15 HL2.out HL2.out).mono ?_
      rintro e w16 ⟨rfl, hb16⟩
      rw [decide_eq_true rfl]
      have hb16 := below_step hb15 hb16
      clear hq15 hy15 hb15
      go_wp2_with fail
      refine (C10.out w16 hb16).mono ?_
      rintro e w17 ⟨rfl, hb17⟩
      go_wp2_with fail
      go_ret
      exact ⟨rfl, below_step HB6.out (below_step hb16 hb17)⟩
  · have e1 : (E1 == 0) = false := by simp [hz1]
    have HV := Lib.hid (HT0.out hz1)
    clear hz1
    obtain ⟨w12, h12⟩ : ∃ w12, w12 = w11 := ⟨_, rfl⟩
    have hg12 := hg11
    have hq12 := hq11
    have hb12 := hb11
    rw [← h12] at hg12 hq12 hb12 ⊢
    have hx12 : Fxs w12 w6.heap.size (.slice none 0 0) [] := ⟨by simp, by simp, .inl ⟨rfl, rfl⟩⟩
    rw [← HV.out] at hx12
    clear hg11 hq11 hb11 h12
    by_cases hz2 : E2 = 0
    · have e2 : (E2 == 0) = true := by simp [hz2]
      have HV2 := Lib.hid (HU.out hz2)
      clear hz2
      go_wp2_with fail
      refine (C7.out w12 hb12).mono ?_
      rintro e w13 ⟨vw, hvw, rfl, hb13⟩
      rw [← HV2.out] at hvw
      obtain ⟨wa, wc, rfl⟩ := owns_shape hvw
      have hy13 := strs_of_owns hvw HL2.out
      have hg13 := hg12.below hb13
      have hq13 := hq12.below hb13
      have hx13 := hx12.below hb13
      have hb13 := below_step hb12 hb13
      clear hg12 hq12 hx12 hb12 hvw
      go_wp2_with fail
      refine (C4.out w13 hb13).mono ?_
      rintro e w14 ⟨rfl, hb14⟩
      have hg14 := hg13.below hb14
      have hq14 := hq13.below hb14
      have hx14 := hx13.below hb14
      have hy14 := hy13.below hb14
      have hb14 := below_step hb13 hb14
      clear hg13 hq13 hx13 hy13 hb13
      go_wp2_with fail
      refine (equalFx_calls _ _ _ _ R1 R1 w14 hg14 hx14 HL1.out HL1.out).mono ?_
      rintro e w15 ⟨rfl, hb15⟩
      rw [decide_eq_true rfl]
      have hq15 := hq14.below hb15
      have hy15 := hy14.below hb15
      have hb15 := below_step hb14 hb15
      clear hg14 hq14 hx14 hy14 hb14
      go_wp2_with fail
      refine (equal_calls _ _ _ _ R2 R2 w15 hq15 hy15 HL2.out HL2.out).mono ?_
      rintro e w16 ⟨rfl, hb16⟩
      rw [decide_eq_true rfl]
      have hb16 := below_step hb15 hb16
      clear hq15 hy15 hb15
      go_wp2_with fail
      refine (C10.out w16 hb16).mono ?_
      rintro e w17 ⟨rfl, hb17⟩
      go_wp2_with fail
      go_ret
      exact ⟨rfl, below_step HB6.out (below_step hb16 hb17)⟩
    · have e2 : (E2 == 0) = false := by simp [hz2]
      have HV2 := Lib.hid (HU0.out hz2)
      clear hz2
      obtain ⟨w13, h13⟩ : ∃ w13, w13 = w12 := ⟨_, rfl⟩
      have hg13 := hg12
      have hq13 := hq12
      have hx13 := hx12
      have hb13 := hb12
      rw [← h13] at hg13 hq13 hx13 hb13 ⊢
      have hy13 : Strs w13 w6.heap.size (.slice none 0 0) [] := ⟨by simp, by simp, .inl ⟨rfl, rfl⟩⟩
      rw [← HV2.out] at hy13
      clear hg12 hq12 hx12 hb12 h13
      go_wp2_with fail
      refine (C4.out w13 hb13).mono ?_
      rintro e w14 ⟨rfl, hb14⟩
      have hg14 := hg13.below hb14
      have hq14 := hq13.below hb14
      have hx14 := hx13.below hb14
      have hy14 := hy13.below hb14
      have hb14 := below_step hb13 hb14
      clear hg13 hq13 hx13 hy13 hb13
      go_wp2_with fail
      refine (equalFx_calls _ _ _ _ R1 R1 w14 hg14 hx14 HL1.out HL1.out).mono ?_
      rintro e w15 ⟨rfl, hb15⟩
      rw [decide_eq_true rfl]
      have hq15 := hq14.below hb15
      have hy15 := hy14.below hb15
      have hb15 := below_step hb14 hb15
      clear hg14 hq14 hx14 hy14 hb14
      go_wp2_with fail
      refine (equal_calls _ _ _ _ R2 R2 w15 hq15 hy15 HL2.out HL2.out).mono ?_
      rintro e w16 ⟨rfl, hb16⟩
      rw [decide_eq_true rfl]
      have hb16 := below_step hb15 hb16
      clear hq15 hy15 hb15
      go_wp2_with fail
      refine (C10.out w16 hb16).mono ?_
      rintro e w17 ⟨rfl, hb17⟩
      go_wp2_with fail
      go_ret
      exact ⟨rfl, below_step HB6.out (below_step hb16 hb17)⟩
end Go.Proofs.YtiedmbgdmafhaaaGreatDoor
