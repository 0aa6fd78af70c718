/- PlayersFielded: the law's walk. -/
import Derived.Test.YtiedmbgdmafhaaaGreatDoorHg
import Derived.Test.YtiedmbgdmafhaaaGreatDoorLaw5
namespace Go.Proofs.YtiedmbgdmafhaaaGreatDoor
open Go.RowKit

theorem nums6 (w : World) (T : Nat) (a b c d e f : Int) : NumsAt (w.alloc (.cells #[.int .i64 a, .int .i64 b, .int .i64 c, .int .i64 d, .int .i64 e, .int .i64 f] T)) w.heap.size 0 [a, b, c, d, e, f] := by
  intro i x hx
  rw [World.cell?_alloc_at _ _ _ _ rfl]
  match i, hx with
  | 0, hx => simp at hx; subst hx; rfl
  | 1, hx => simp at hx; subst hx; rfl
  | 2, hx => simp at hx; subst hx; rfl
  | 3, hx => simp at hx; subst hx; rfl
  | 4, hx => simp at hx; subst hx; rfl
  | 5, hx => simp at hx; subst hx; rfl
set_option maxRecDepth 100000 in
set_option maxHeartbeats 16000000 in
theorem law6 (lv : Value) (w : World) (hl : Tape w lv) (hG : Glob w) : Calls Tryz.prog 4 #[lv] w (BoolIs true w) := by
  have hs1 := hl.stm 25
  obtain ⟨la, ln, lc, rfl⟩ := hl.shape
  have HG := Lib.hid hG
  clear hl hG
  go_enter Tryz.func4, Tryz.ntmps4
  go_wp2_with fail
  refine (players_calls w.heap.size 0 _ hs1 (by omega)).mono ?_
  rintro e w2 ⟨vp, ⟨ps, hP, hpl, hpa⟩, rfl, hs2, hg2⟩
  have hb2 : Below w.heap.size w w2 := (below_alloc w _).grown hg2 (by simp) (fun r hr => by cases hr; exact Nat.le_refl _)
  have HA := Lib.hid (anyP_all hpa)
  obtain ⟨pa, pc, rfl⟩ := plays_shape hP
  clear hs1 hg2 hpa
  go_wp2_with fail
  refine (stintsOf_calls w.heap.size _ _ _ ps w2 hs2 (by omega) hP).mono ?_
  rintro e w3 ⟨vs, ⟨ss, hS, hsl, hss⟩, rfl, hs3, hg3⟩
  have hb3 := hb2.grown hg3 (hb2.size) (fun r hr => by cases hr; exact Nat.le_refl _)
  obtain ⟨cur2, hB2⟩ := st_cells hs2
  have hP3 := hP.row hg3 hB2 (by decide) (by decide)
  have HO := Lib.hid hss
  obtain ⟨sa, sc, rfl⟩ := sts_shape hS
  clear hs2 hg3 hP hB2 cur2 hb2 hss
  go_wp2_with fail
  refine (healthOf_calls w.heap.size _ _ _ ps w3 hs3 (by omega) hP3).mono ?_
  rintro e w4 ⟨vh, ⟨ds, hH, hdl, hdo⟩, rfl, hs4, hg4⟩
  have hb4 := hb3.grown hg4 (hb3.size) (fun r hr => by cases hr; exact Nat.le_refl _)
  obtain ⟨cur3, hB3⟩ := st_cells hs3
  have hP4 := hP3.row hg4 hB3 (by decide) (by decide)
  have hS4 : Sts w4 w2.heap.size (.slice sa ss.length sc) ss := Rows.row hS hg4 fun r hr => ⟨cur3, _, _, by cases hr; exact hB3, by decide⟩
  have HD := Lib.hid hdo
  obtain ⟨da, dc, rfl⟩ := hds_shape hH
  clear hs3 hg4 hP3 hS hB3 cur3 hb3 hdo
  go_wp2_with fail
  refine (fixtures_calls w.heap.size _ _ hs4 (by omega)).mono ?_
  rintro e w5 ⟨vf, ⟨fs, hF, hfl, hfok⟩, rfl, hs5, hg5⟩
  have HFk := Lib.hid hfok
  obtain ⟨fa, fc, rfl⟩ := fxs_shape hF
  have hb5 := hb4.grown hg5 (hb4.size) (fun r hr => by cases hr; exact Nat.le_refl _)
  obtain ⟨cur4, hB4⟩ := st_cells hs4
  have hP5 := hP4.row hg5 hB4 (by decide) (by decide)
  have hS5 : Sts w5 w2.heap.size (.slice sa ss.length sc) ss := Rows.row hS4 hg5 fun r hr => ⟨cur4, _, _, by cases hr; exact hB4, by decide⟩
  have hH5 : Hds w5 w3.heap.size (.slice da ds.length dc) ds := Rows.row hH hg5 fun r hr => ⟨cur4, _, _, by cases hr; exact hB4, by decide⟩
  clear hs4 hg5 hP4 hS4 hH hB4 cur4 hb4 hfok
  go_wp2_with fail
  refine (some_calls w.heap.size _ w5.heap.size _ [K_ann, K_bea, K_cid, K_zed] _ (hs5.alloc _) (by omega) (strs_new w5 [K_ann, K_bea, K_cid, K_zed] (by decide)) hs5.lt (by simp)).mono ?_
  rintro e w6 ⟨v, ⟨who, rfl, hwho⟩, rfl, hs6, hg6⟩
  have Hwho := Lib.hid (whos_small _ hwho)
  clear hwho
  go_wp2_with fail
  refine (aweek_calls w.heap.size _ w6 hs6 (by omega)).mono ?_
  rintro e w7 ⟨v, ⟨r, rfl, hr0, hr61⟩, rfl, hs7, hg7⟩
  obtain ⟨m, rfl⟩ : ∃ m : Nat, r = (m : Int) := ⟨r.toNat, by omega⟩
  go_wp2_with fail
  refine (pick_calls w.heap.size _ w7.heap.size _ [0, 105, 200, 205, 300, 320, -1] _ (hs7.alloc _) (by omega) (ints_new w7 [0, 105, 200, 205, 300, 320, -1] (by decide)) hs7.lt (by simp)).mono ?_
  rintro e w8 ⟨v, ⟨moment, rfl, hmo⟩, rfl, hs8, hg8⟩
  have hg58 : w5.grownBy w8 (some w.heap.size) := gb_trans (gb_alloc w5 _ _) (gb_trans hg6 (gb_trans hg7 (gb_trans (gb_alloc w7 _ _) hg8)))
  obtain ⟨cur5, hB5⟩ := st_cells hs5
  have hP8 := hP5.row hg58 hB5 (by decide) (by decide)
  have hS8 : Sts w8 w2.heap.size (.slice sa ss.length sc) ss := Rows.row hS5 hg58 fun r hr => ⟨cur5, _, _, by cases hr; exact hB5, by decide⟩
  have hH8 : Hds w8 w3.heap.size (.slice da ds.length dc) ds := Rows.row hH5 hg58 fun r hr => ⟨cur5, _, _, by cases hr; exact hB5, by decide⟩
  have hF8 : Fxs w8 w4.heap.size (.slice fa fs.length fc) fs := Rows.row hF hg58 fun r hr => ⟨cur5, _, _, by cases hr; exact hB5, by decide⟩
  have hb8 := hb5.grown hg58 hb5.size (fun r hr => by cases hr; exact Nat.le_refl _)
  have HF := Lib.hid (show ∀ w', Below w8.heap.size w8 w' → Plays w' _ (.slice pa ps.length pc) ps ∧ Sts w' w2.heap.size (.slice sa ss.length sc) ss ∧ Hds w' w3.heap.size (.slice da ds.length dc) ds ∧ Fxs w' w4.heap.size (.slice fa fs.length fc) fs ∧ Glob w' from fun w' hb => ⟨hP8.below hb, hS8.below hb, hH8.below hb, hF8.below hb, (HG.out.below hb8).below hb⟩)
  have HSm := Lib.hid (show ∀ p ∈ ps, SmallP p from fun p hp => (HA.out p hp).1)
  have HB8 := Lib.hid hb8
  have hpn : ps.length ≤ 1000000 := by omega
  have hsn : ss.length ≤ 1000000 := by omega
  have hdn : ds.length ≤ 1000000 := by omega
  have hfn : fs.length ≤ 10000 := by omega
  have hm : m ≤ 1000 := by omega
  have Q1 := Lib.hid (stateE_eq ps ds who m)
  have Q2 := Lib.hid (frstE_eq ps ss fs who m)
  have Q3 := Lib.hid (fieldE_eq ps ss ds fs m moment)
  have T1 := Lib.hid (fun h => stateR_eq (ps := ps) (hs := ds) (who := who) (week := m) h)
  have T2 := Lib.hid (fun h => frstP_eq (ps := ps) (ss := ss) (fs := fs) (who := who) (m := m) h)
  have T3 := Lib.hid (fun h => fieldR_eq (ps := ps) (ss := ss) (hs := ds) (fs := fs) (m := m) (at' := moment) h)
  have U1 := Lib.hid (show stateE ps ds who m ≠ 0 → stateR ps ds who m = 0 from fun h => by unfold stateR; rw [if_neg h])
  have U2 := Lib.hid (show frstE ps ss fs who m ≠ 0 → frstP ps ss fs who m = none from fun h => by unfold frstP; rw [if_neg h])
  have U3 := Lib.hid (show fieldE ps ss ds fs m moment ≠ 0 → fieldR ps ss ds fs m moment = [] from fun h => by unfold fieldR; rw [if_neg h])
  have HL := Lib.hid (show (fieldR ps ss ds fs m moment).length ≤ 1000000 from Nat.le_trans (fieldR_le _ _ _ _ _ _) hpn)
  have HK := Lib.hid (chkHd_eq ps ds)
  have C1 := Lib.hid (fun w' hb => stateInX_calls w3.heap.size _ _ _ ps ds who m w' (HF.out w' hb).1 HSm.out hpn (HF.out w' hb).2.2.2.2 (HF.out w' hb).2.2.1 hdn)
  have C2 := Lib.hid (fun w' hb => first_calls w2.heap.size _ _ _ _ _ ps ss fs who m w' (HF.out w' hb).1 HSm.out hpn (HF.out w' hb).2.2.2.2 (HF.out w' hb).2.1 HO.out hsn (HF.out w' hb).2.2.2.1 HFk.out hfn)
  have C3 := Lib.hid (fun w' hb => fieldable_calls w2.heap.size _ w3.heap.size w4.heap.size _ _ _ _ ps ss ds fs m moment w' (HF.out w' hb).1 HSm.out hpn (HF.out w' hb).2.2.2.2 (HF.out w' hb).2.1 HO.out hsn (HF.out w' hb).2.2.1 hdn (HF.out w' hb).2.2.2.1 HFk.out hfn)
  have C4 := Lib.hid (fun w' hb => playersFault_calls _ _ ps w' (HF.out w' hb).1 (fun p hp => ⟨(HA.out p hp).1, (HA.out p hp).2.1⟩) hpn (HF.out w' hb).2.2.2.2)
  have C5 := Lib.hid (fun w' hb => healthFault_calls w3.heap.size _ _ _ ps ds w' (HF.out w' hb).1 (HF.out w' hb).2.2.1 HD.out hdn)
  have C6 := Lib.hid (fun w' hb => playerFault_calls _ who _ ps w' (HF.out w' hb).1)
  have C8 := Lib.hid (fun w' hb => stintsFault_calls w2.heap.size _ _ _ ps ss w' (HF.out w' hb).1 (HF.out w' hb).2.1 HO.out hsn)
  have C9 := Lib.hid (fun w' hb => fixturesFault_calls w4.heap.size _ fs w' (HF.out w' hb).2.2.2.1 HFk.out hfn)
  have C11 := Lib.hid (fun w' hb => stateOf_calls w3.heap.size _ ds who m w' (HF.out w' hb).2.2.1 hdn)
  have C12 := Lib.hid (fun w' hb => firstOf_calls w2.heap.size w4.heap.size _ _ ss fs who m w' (HF.out w' hb).2.1 (HF.out w' hb).2.2.2.1 hsn hfn hm)
  have C13 := Lib.hid (fun w' hb => fieldableOf_calls _ w2.heap.size w3.heap.size w4.heap.size m moment _ _ _ _ ps ss ds fs w' (HF.out w' hb).1 (HF.out w' hb).2.1 (HF.out w' hb).2.2.1 (HF.out w' hb).2.2.2.1 hsn hdn hfn hm)
  have C14 := Lib.hid (fun w' hb => checkHealth_calls w3.heap.size _ _ _ ps ds w' (HF.out w' hb).1 HSm.out hpn (HF.out w' hb).2.2.2.2 (HF.out w' hb).2.2.1 hdn)
  have C16 := Lib.hid (fun w' hb => listed_calls w' (HF.out w' hb).2.2.2.2)
  clear hs5 hs6 hs7 hs8 hg6 hg7 hg8 hg58 hB5 cur5 hP5 hS5 hH5 hF hP8 hS8 hH8 hF8 hb5 hb8 hmo
  rw [HK.out] at C14
  generalize stateE ps ds who m = E1 at Q1 T1 U1 C1
  generalize frstE ps ss fs who m = E2 at Q2 T2 U2 C2
  generalize fieldE ps ss ds fs m moment = E3 at Q3 T3 U3 C3
  generalize stateR ps ds who m = R1 at T1 U1 C1
  generalize frstP ps ss fs who m = R2 at T2 U2 C2
  generalize fieldR ps ss ds fs m moment = R3 at T3 U3 C3 HL
  generalize stateO ds who m = O1 at T1 C11
  generalize firstP fs (clubN ss who m) m = O2 at T2 C12
  generalize chkPs ps = X1 at Q1 Q2 Q3 HK C4 C14
  generalize refHd ps ds = X2 at Q1 Q3 HK C5 C14
  generalize refSt ps ss = X3 at Q2 Q3 C8
  generalize refFx fs = X4 at Q2 Q3 C9
  generalize hX5 : firstE [X1, X2] = X5 at HK C14
  have HX5 := Lib.hid hX5
  clear HK hX5
  have hb8 := Below.refl w8.heap.size w8
  go_wp2_with fail
  refine (C1.out w8 hb8).mono ?_
  rintro e w9 ⟨rfl, hb9⟩
  have hb9 := below_step hb8 hb9
  clear hb8
  go_wp2_with fail
  refine (C2.out w9 hb9).mono ?_
  rintro e w10 ⟨rfl, hb10⟩
  have hb10 := below_step hb9 hb10
  clear hb9
  go_wp2_with fail
  refine (C3.out w10 hb10).mono ?_
  rintro e w11 ⟨vq, hvq, rfl, hb11⟩
  obtain ⟨qa, qc, rfl⟩ := owns_shape hvq
  have hq11 := strs_of_owns hvq HL.out
  have hb11 := below_step hb10 hb11
  clear hvq hb10
  go_wp2_with fail
  refine (C4.out w11 hb11).mono ?_
  rintro e w12 ⟨rfl, hb12⟩
  have hq12 := hq11.below hb12
  have hb12 := below_step hb11 hb12
  clear hq11 hb11
  go_wp2_with fail
  refine (C5.out w12 hb12).mono ?_
  rintro e w13 ⟨rfl, hb13⟩
  have hq13 := hq12.below hb13
  have hb13 := below_step hb12 hb13
  clear hq12 hb12
  go_wp2_with fail
  refine (C6.out w13 hb13).mono ?_
  rintro e w14 ⟨rfl, hb14⟩
  have hq14 := hq13.below hb14
  have hb14 := below_step hb13 hb14
  clear hq13 hb13
  go_wp2_with fail
  refine (weekFault_calls _ _).mono ?_
  rintro e w' ⟨rfl, rfl⟩
  go_wp2_with fail
  refine (errs_calls _ 0 4 [X1, X2, unlessE (hasP ps who) 8, unlessE (betwB m 1 60) 1] _ (by simp) (by exact nums4 _ _ _ _ _ _ )).mono ?_
  rintro e w15 ⟨rfl, hw15⟩
  rw [← Q1.out]
  have hq15 := hq14.below (below_alloc w14 (.cells #[.int .i64 X1, .int .i64 X2, .int .i64 (unlessE (hasP ps who) 8), .int .i64 (unlessE (betwB m 1 60) 1)] 32))
  have hb15 := below_step hb14 (below_alloc w14 (.cells #[.int .i64 X1, .int .i64 X2, .int .i64 (unlessE (hasP ps who) 8), .int .i64 (unlessE (betwB m 1 60) 1)] 32))
  rw [hw15] at hq15 hb15
  clear hw15 hq14 hb14
  go_wp2_with fail
  refine (C8.out w15 hb15).mono ?_
  rintro e w16 ⟨rfl, hb16⟩
  have hq16 := hq15.below hb16
  have hb16 := below_step hb15 hb16
  clear hq15 hb15
  go_wp2_with fail
  refine (C9.out w16 hb16).mono ?_
  rintro e w17 ⟨rfl, hb17⟩
  have hq17 := hq16.below hb17
  have hb17 := below_step hb16 hb17
  clear hq16 hb16
  go_wp2_with fail
  refine (C6.out w17 hb17).mono ?_
  rintro e w18 ⟨rfl, hb18⟩
  have hq18 := hq17.below hb18
  have hb18 := below_step hb17 hb18
  clear hq17 hb17
  go_wp2_with fail
  refine (weekFault_calls _ _).mono ?_
  rintro e w' ⟨rfl, rfl⟩
  go_wp2_with fail
  refine (errs_calls _ 0 5 [X1, X3, X4, unlessE (hasP ps who) 8, unlessE (betwB m 1 60) 1] _ (by simp) (by exact nums5 _ _ _ _ _ _ _ )).mono ?_
  rintro e w19 ⟨rfl, hw19⟩
  rw [← Q2.out]
  have hq19 := hq18.below (below_alloc w18 (.cells #[.int .i64 X1, .int .i64 X3, .int .i64 X4, .int .i64 (unlessE (hasP ps who) 8), .int .i64 (unlessE (betwB m 1 60) 1)] 32))
  have hb19 := below_step hb18 (below_alloc w18 (.cells #[.int .i64 X1, .int .i64 X3, .int .i64 X4, .int .i64 (unlessE (hasP ps who) 8), .int .i64 (unlessE (betwB m 1 60) 1)] 32))
  rw [hw19] at hq19 hb19
  clear hw19 hq18 hb18
  go_wp2_with fail
  refine (C8.out w19 hb19).mono ?_
  rintro e w20 ⟨rfl, hb20⟩
  have hq20 := hq19.below hb20
  have hb20 := below_step hb19 hb20
  clear hq19 hb19
  go_wp2_with fail
  refine (C5.out w20 hb20).mono ?_
  rintro e w21 ⟨rfl, hb21⟩
  have hq21 := hq20.below hb21
  have hb21 := below_step hb20 hb21
  clear hq20 hb20
  go_wp2_with fail
  refine (C9.out w21 hb21).mono ?_
  rintro e w22 ⟨rfl, hb22⟩
  have hq22 := hq21.below hb22
  have hb22 := below_step hb21 hb22
  clear hq21 hb21
  go_wp2_with fail
  refine (weekFault_calls _ _).mono ?_
  rintro e w' ⟨rfl, rfl⟩
  go_wp2_with fail
  refine (momentFault_calls _ _).mono ?_
  rintro e w' ⟨rfl, rfl⟩
  go_wp2_with fail
  refine (errs_calls _ 0 6 [X1, X3, X2, X4, unlessE (betwB m 1 60) 1, unlessE (betwB moment 0 345686399999) 1] _ (by simp) (by exact nums6 _ _ _ _ _ _ _ _ )).mono ?_
  rintro e w23 ⟨rfl, hw23⟩
  rw [← Q3.out]
  have hq23 := hq22.below (below_alloc w22 (.cells #[.int .i64 X1, .int .i64 X3, .int .i64 X2, .int .i64 X4, .int .i64 (unlessE (betwB m 1 60) 1), .int .i64 (unlessE (betwB moment 0 345686399999) 1)] 32))
  have hb23 := below_step hb22 (below_alloc w22 (.cells #[.int .i64 X1, .int .i64 X3, .int .i64 X2, .int .i64 X4, .int .i64 (unlessE (betwB m 1 60) 1), .int .i64 (unlessE (betwB moment 0 345686399999) 1)] 32))
  rw [hw23] at hq23 hb23
  clear hw23 hq22 hb22
  by_cases hz1 : E1 = 0
  · have e1 : (E1 == 0) = true := by simp [hz1]
    have HV1 := Lib.hid (T1.out hz1)
    clear hz1
    go_wp2_with fail
    refine (C11.out w23 hb23).mono ?_
    rintro e w24 ⟨rfl, hb24⟩
    rw [← HV1.out]
    have hq24 := hq23.below hb24
    have hb24 := below_step hb23 hb24
    clear hq23 hb23
    by_cases hz2 : E2 = 0
    · have e2 : (E2 == 0) = true := by simp [hz2]
      have HV2 := Lib.hid (T2.out hz2)
      clear hz2
      go_wp2_with fail
      refine (C12.out w24 hb24).mono ?_
      rintro e w25 ⟨rfl, hb25⟩
      rw [← HV2.out]
      have hq25 := hq24.below hb25
      have hb25 := below_step hb24 hb25
      clear hq24 hb24
      by_cases hz3 : E3 = 0
      · have e3 : (E3 == 0) = true := by simp [hz3]
        have HV3 := Lib.hid (T3.out hz3)
        clear hz3
        go_wp2_with fail
        refine (C13.out w25 hb25).mono ?_
        rintro e w26 ⟨vw, hvw, rfl, hb26⟩
        rw [← HV3.out] at hvw
        obtain ⟨wa, wc, rfl⟩ := owns_shape hvw
        have hy26 := strs_of_owns hvw HL.out
        have hq26 := hq25.below hb26
        have hb26 := below_step hb25 hb26
        clear hq25 hb25 hvw
        go_wp2_with fail
        refine (C14.out w26 hb26).mono ?_
        rintro e w27 ⟨rfl, hb27⟩
        have hq27 := hq26.below hb27
        have hy27 := hy26.below hb27
        have hb27 := below_step hb26 hb27
        clear hq26 hy26 hb26
        go_wp2_with fail
        refine (C5.out w27 hb27).mono ?_
        rintro e w28 ⟨rfl, hb28⟩
        have hq28 := hq27.below hb28
        have hy28 := hy27.below hb28
        have hb28 := below_step hb27 hb28
        clear hq27 hy27 hb27
        go_wp2_with fail
        refine (errs_calls _ 0 2 [X1, X2] _ (by simp) (by exact nums2 _ _ _ _ )).mono ?_
        rintro e w29 ⟨rfl, hw29⟩
        have hq29 := hq28.below (below_alloc w28 (.cells #[.int .i64 X1, .int .i64 X2] 32))
        have hy29 := hy28.below (below_alloc w28 (.cells #[.int .i64 X1, .int .i64 X2] 32))
        have hb29 := below_step hb28 (below_alloc w28 (.cells #[.int .i64 X1, .int .i64 X2] 32))
        rw [hw29] at hq29 hy29 hb29
        clear hw29 hq28 hy28 hb28
        rw [HX5.out]
        go_wp2_with fail
        refine (equal_calls _ _ _ _ R3 R3 w29 hq29 hy29 HL.out HL.out).mono ?_
        rintro e w30 ⟨rfl, hb30⟩
        rw [decide_eq_true rfl]
        have hb30 := below_step hb29 hb30
        clear hq29 hy29 hb29
        go_wp2_with fail
        refine (C16.out w30 hb30).mono ?_
        rintro e w31 ⟨rfl, hb31⟩
        go_wp2_with fail
        go_ret
        exact ⟨rfl, below_step HB8.out (below_step hb30 hb31)⟩
      · have e3 : (E3 == 0) = false := by simp [hz3]
        have HV3 := Lib.hid (U3.out hz3)
        clear hz3
        have hy25 : Strs w25 w8.heap.size (.slice none 0 0) [] := ⟨by simp, by simp, .inl ⟨rfl, rfl⟩⟩
        rw [← HV3.out] at hy25
        go_wp2_with fail
        refine (C14.out w25 hb25).mono ?_
        rintro e w26 ⟨rfl, hb26⟩
        have hq26 := hq25.below hb26
        have hy26 := hy25.below hb26
        have hb26 := below_step hb25 hb26
        clear hq25 hy25 hb25
        go_wp2_with fail
        refine (C5.out w26 hb26).mono ?_
        rintro e w27 ⟨rfl, hb27⟩
        have hq27 := hq26.below hb27
        have hy27 := hy26.below hb27
        have hb27 := below_step hb26 hb27
        clear hq26 hy26 hb26
        go_wp2_with fail
        refine (errs_calls _ 0 2 [X1, X2] _ (by simp) (by exact nums2 _ _ _ _ )).mono ?_
        rintro e w28 ⟨rfl, hw28⟩
        have hq28 := hq27.below (below_alloc w27 (.cells #[.int .i64 X1, .int .i64 X2] 32))
        have hy28 := hy27.below (below_alloc w27 (.cells #[.int .i64 X1, .int .i64 X2] 32))
        have hb28 := below_step hb27 (below_alloc w27 (.cells #[.int .i64 X1, .int .i64 X2] 32))
        rw [hw28] at hq28 hy28 hb28
        clear hw28 hq27 hy27 hb27
        rw [HX5.out]
        go_wp2_with fail
        refine (equal_calls _ _ _ _ R3 R3 w28 hq28 hy28 HL.out HL.out).mono ?_
        rintro e w29 ⟨rfl, hb29⟩
        rw [decide_eq_true rfl]
        have hb29 := below_step hb28 hb29
        clear hq28 hy28 hb28
        go_wp2_with fail
        refine (C16.out w29 hb29).mono ?_
        rintro e w30 ⟨rfl, hb30⟩
        go_wp2_with fail
        go_ret
        exact ⟨rfl, below_step HB8.out (below_step hb29 hb30)⟩
    · have e2 : (E2 == 0) = false := by simp [hz2]
      have HV2 := Lib.hid (U2.out hz2)
      clear hz2
      have HG2 := Lib.hid (show R2.getD 0 = 0 by rw [HV2.out]; rfl)
      have HI2 := Lib.hid (show R2.isSome = false by rw [HV2.out]; rfl)
      rw [HG2.out, HI2.out]
      by_cases hz3 : E3 = 0
      · have e3 : (E3 == 0) = true := by simp [hz3]
        have HV3 := Lib.hid (T3.out hz3)
        clear hz3
        go_wp2_with fail
        refine (C13.out w24 hb24).mono ?_
        rintro e w25 ⟨vw, hvw, rfl, hb25⟩
        rw [← HV3.out] at hvw
        obtain ⟨wa, wc, rfl⟩ := owns_shape hvw
        have hy25 := strs_of_owns hvw HL.out
        have hq25 := hq24.below hb25
        have hb25 := below_step hb24 hb25
        clear hq24 hb24 hvw
        go_wp2_with fail
        refine (C14.out w25 hb25).mono ?_
        rintro e w26 ⟨rfl, hb26⟩
        have hq26 := hq25.below hb26
        have hy26 := hy25.below hb26
        have hb26 := below_step hb25 hb26
        clear hq25 hy25 hb25
        go_wp2_with fail
        refine (C5.out w26 hb26).mono ?_
        rintro e w27 ⟨rfl, hb27⟩
        have hq27 := hq26.below hb27
        have hy27 := hy26.below hb27
        have hb27 := below_step hb26 hb27
        clear hq26 hy26 hb26
        go_wp2_with fail
        refine (errs_calls _ 0 2 [X1, X2] _ (by simp) (by exact nums2 _ _ _ _ )).mono ?_
        rintro e w28 ⟨rfl, hw28⟩
        have hq28 := hq27.below (below_alloc w27 (.cells #[.int .i64 X1, .int .i64 X2] 32))
        have hy28 := hy27.below (below_alloc w27 (.cells #[.int .i64 X1, .int .i64 X2] 32))
        have hb28 := below_step hb27 (below_alloc w27 (.cells #[.int .i64 X1, .int .i64 X2] 32))
        rw [hw28] at hq28 hy28 hb28
        clear hw28 hq27 hy27 hb27
        rw [HX5.out]
        go_wp2_with fail
        refine (equal_calls _ _ _ _ R3 R3 w28 hq28 hy28 HL.out HL.out).mono ?_
        rintro e w29 ⟨rfl, hb29⟩
        rw [decide_eq_true rfl]
        have hb29 := below_step hb28 hb29
        clear hq28 hy28 hb28
        go_wp2_with fail
        refine (C16.out w29 hb29).mono ?_
        rintro e w30 ⟨rfl, hb30⟩
        go_wp2_with fail
        go_ret
        exact ⟨rfl, below_step HB8.out (below_step hb29 hb30)⟩
      · have e3 : (E3 == 0) = false := by simp [hz3]
        have HV3 := Lib.hid (U3.out hz3)
        clear hz3
        have hy24 : Strs w24 w8.heap.size (.slice none 0 0) [] := ⟨by simp, by simp, .inl ⟨rfl, rfl⟩⟩
        rw [← HV3.out] at hy24
        go_wp2_with fail
        refine (C14.out w24 hb24).mono ?_
        rintro e w25 ⟨rfl, hb25⟩
        have hq25 := hq24.below hb25
        have hy25 := hy24.below hb25
        have hb25 := below_step hb24 hb25
        clear hq24 hy24 hb24
        go_wp2_with fail
        refine (C5.out w25 hb25).mono ?_
        rintro e w26 ⟨rfl, hb26⟩
        have hq26 := hq25.below hb26
        have hy26 := hy25.below hb26
        have hb26 := below_step hb25 hb26
        clear hq25 hy25 hb25
        go_wp2_with fail
        refine (errs_calls _ 0 2 [X1, X2] _ (by simp) (by exact nums2 _ _ _ _ )).mono ?_
        rintro e w27 ⟨rfl, hw27⟩
        have hq27 := hq26.below (below_alloc w26 (.cells #[.int .i64 X1, .int .i64 X2] 32))
        have hy27 := hy26.below (below_alloc w26 (.cells #[.int .i64 X1, .int .i64 X2] 32))
        have hb27 := below_step hb26 (below_alloc w26 (.cells #[.int .i64 X1, .int .i64 X2] 32))
        rw [hw27] at hq27 hy27 hb27
        clear hw27 hq26 hy26 hb26
        rw [HX5.out]
        go_wp2_with fail
        refine (equal_calls _ _ _ _ R3 R3 w27 hq27 hy27 HL.out HL.out).mono ?_
        rintro e w28 ⟨rfl, hb28⟩
        rw [decide_eq_true rfl]
        have hb28 := below_step hb27 hb28
        clear hq27 hy27 hb27
        go_wp2_with fail
        refine (C16.out w28 hb28).mono ?_
        rintro e w29 ⟨rfl, hb29⟩
        go_wp2_with fail
        go_ret
        exact ⟨rfl, below_step HB8.out (below_step hb28 hb29)⟩
  · have e1 : (E1 == 0) = false := by simp [hz1]
    have HV1 := Lib.hid (U1.out hz1)
    clear hz1
    rw [HV1.out]
    by_cases hz2 : E2 = 0
    · have e2 : (E2 == 0) = true := by simp [hz2]
      have HV2 := Lib.hid (T2.out hz2)
      clear hz2
      go_wp2_with fail
      refine (C12.out w23 hb23).mono ?_
      rintro e w24 ⟨rfl, hb24⟩
      rw [← HV2.out]
      have hq24 := hq23.below hb24
      have hb24 := below_step hb23 hb24
      clear hq23 hb23
      by_cases hz3 : E3 = 0
      · have e3 : (E3 == 0) = true := by simp [hz3]
        have HV3 := Lib.hid (T3.out hz3)
        clear hz3
        go_wp2_with fail
        refine (C13.out w24 hb24).mono ?_
        rintro e w25 ⟨vw, hvw, rfl, hb25⟩
        rw [← HV3.out] at hvw
        obtain ⟨wa, wc, rfl⟩ := owns_shape hvw
        have hy25 := strs_of_owns hvw HL.out
        have hq25 := hq24.below hb25
        have hb25 := below_step hb24 hb25
        clear hq24 hb24 hvw
        go_wp2_with fail
        refine (C14.out w25 hb25).mono ?_
        rintro e w26 ⟨rfl, hb26⟩
        have hq26 := hq25.below hb26
        have hy26 := hy25.below hb26
        have hb26 := below_step hb25 hb26
        clear hq25 hy25 hb25
        go_wp2_with fail
        refine (C5.out w26 hb26).mono ?_
        rintro e w27 ⟨rfl, hb27⟩
        have hq27 := hq26.below hb27
        have hy27 := hy26.below hb27
        have hb27 := below_step hb26 hb27
        clear hq26 hy26 hb26
        go_wp2_with fail
        refine (errs_calls _ 0 2 [X1, X2] _ (by simp) (by exact nums2 _ _ _ _ )).mono ?_
        rintro e w28 ⟨rfl, hw28⟩
        have hq28 := hq27.below (below_alloc w27 (.cells #[.int .i64 X1, .int .i64 X2] 32))
        have hy28 := hy27.below (below_alloc w27 (.cells #[.int .i64 X1, .int .i64 X2] 32))
        have hb28 := below_step hb27 (below_alloc w27 (.cells #[.int .i64 X1, .int .i64 X2] 32))
        rw [hw28] at hq28 hy28 hb28
        clear hw28 hq27 hy27 hb27
        rw [HX5.out]
        go_wp2_with fail
        refine (equal_calls _ _ _ _ R3 R3 w28 hq28 hy28 HL.out HL.out).mono ?_
        rintro e w29 ⟨rfl, hb29⟩
        rw [decide_eq_true rfl]
        have hb29 := below_step hb28 hb29
        clear hq28 hy28 hb28
        go_wp2_with fail
        refine (C16.out w29 hb29).mono ?_
        rintro e w30 ⟨rfl, hb30⟩
        go_wp2_with fail
        go_ret
        exact ⟨rfl, below_step HB8.out (below_step hb29 hb30)⟩
      · have e3 : (E3 == 0) = false := by simp [hz3]
        have HV3 := Lib.hid (U3.out hz3)
        clear hz3
        have hy24 : Strs w24 w8.heap.size (.slice none 0 0) [] := ⟨by simp, by simp, .inl ⟨rfl, rfl⟩⟩
        rw [← HV3.out] at hy24
        go_wp2_with fail
        refine (C14.out w24 hb24).mono ?_
        rintro e w25 ⟨rfl, hb25⟩
        have hq25 := hq24.below hb25
        have hy25 := hy24.below hb25
        have hb25 := below_step hb24 hb25
        clear hq24 hy24 hb24
        go_wp2_with fail
        refine (C5.out w25 hb25).mono ?_
        rintro e w26 ⟨rfl, hb26⟩
        have hq26 := hq25.below hb26
        have hy26 := hy25.below hb26
        have hb26 := below_step hb25 hb26
        clear hq25 hy25 hb25
        go_wp2_with fail
        refine (errs_calls _ 0 2 [X1, X2] _ (by simp) (by exact nums2 _ _ _ _ )).mono ?_
        rintro e w27 ⟨rfl, hw27⟩
        have hq27 := hq26.below (below_alloc w26 (.cells #[.int .i64 X1, .int .i64 X2] 32))
        have hy27 := hy26.below (below_alloc w26 (.cells #[.int .i64 X1, .int .i64 X2] 32))
        have hb27 := below_step hb26 (below_alloc w26 (.cells #[.int .i64 X1, .int .i64 X2] 32))
        rw [hw27] at hq27 hy27 hb27
        clear hw27 hq26 hy26 hb26
        rw [HX5.out]
        go_wp2_with fail
        refine (equal_calls _ _ _ _ R3 R3 w27 hq27 hy27 HL.out HL.out).mono ?_
        rintro e w28 ⟨rfl, hb28⟩
        rw [decide_eq_true rfl]
        have hb28 := below_step hb27 hb28
        clear hq27 hy27 hb27
        go_wp2_with fail
        refine (C16.out w28 hb28).mono ?_
        rintro e w29 ⟨rfl, hb29⟩
        go_wp2_with fail
        go_ret
        exact ⟨rfl, below_step HB8.out (below_step hb28 hb29)⟩
    · have e2 : (E2 == 0) = false := by simp [hz2]
      have HV2 := Lib.hid (U2.out hz2)
      clear hz2
      have HG2 := Lib.hid (show R2.getD 0 = 0 by rw [HV2.out]; rfl)
      have HI2 := Lib.hid (show R2.isSome = false by rw [HV2.out]; rfl)
      rw [HG2.out, HI2.out]
      by_cases hz3 : E3 = 0
      · have e3 : (E3 == 0) = true := by simp [hz3]
        have HV3 := Lib.hid (T3.out hz3)
        clear hz3
        go_wp2_with fail
        refine (C13.out w23 hb23).mono ?_
        rintro e w24 ⟨vw, hvw, rfl, hb24⟩
        rw [← HV3.out] at hvw
        obtain ⟨wa, wc, rfl⟩ := owns_shape hvw
        have hy24 := strs_of_owns hvw HL.out
        have hq24 := hq23.below hb24
        have hb24 := below_step hb23 hb24
        clear hq23 hb23 hvw
        go_wp2_with fail
        refine (C14.out w24 hb24).mono ?_
        rintro e w25 ⟨rfl, hb25⟩
        have hq25 := hq24.below hb25
        have hy25 := hy24.below hb25
        have hb25 := below_step hb24 hb25
        clear hq24 hy24 hb24
        go_wp2_with fail
        refine (C5.out w25 hb25).mono ?_
        rintro e w26 ⟨rfl, hb26⟩
        have hq26 := hq25.below hb26
        have hy26 := hy25.below hb26
        have hb26 := below_step hb25 hb26
        clear hq25 hy25 hb25
        go_wp2_with fail
        refine (errs_calls _ 0 2 [X1, X2] _ (by simp) (by exact nums2 _ _ _ _ )).mono ?_
        rintro e w27 ⟨rfl, hw27⟩
        have hq27 := hq26.below (below_alloc w26 (.cells #[.int .i64 X1, .int .i64 X2] 32))
        have hy27 := hy26.below (below_alloc w26 (.cells #[.int .i64 X1, .int .i64 X2] 32))
        have hb27 := below_step hb26 (below_alloc w26 (.cells #[.int .i64 X1, .int .i64 X2] 32))
        rw [hw27] at hq27 hy27 hb27
        clear hw27 hq26 hy26 hb26
        rw [HX5.out]
        go_wp2_with fail
        refine (equal_calls _ _ _ _ R3 R3 w27 hq27 hy27 HL.out HL.out).mono ?_
        rintro e w28 ⟨rfl, hb28⟩
        rw [decide_eq_true rfl]
        have hb28 := below_step hb27 hb28
        clear hq27 hy27 hb27
        go_wp2_with fail
        refine (C16.out w28 hb28).mono ?_
        rintro e w29 ⟨rfl, hb29⟩
        go_wp2_with fail
        go_ret
        exact ⟨rfl, below_step HB8.out (below_step hb28 hb29)⟩
      · have e3 : (E3 == 0) = false := by simp [hz3]
        have HV3 := Lib.hid (U3.out hz3)
        clear hz3
        have hy23 : Strs w23 w8.heap.size (.slice none 0 0) [] := ⟨by simp, by simp, .inl ⟨rfl, rfl⟩⟩
        rw [← HV3.out] at hy23
        go_wp2_with fail
        refine (C14.out w23 hb23).mono ?_
        rintro e w24 ⟨rfl, hb24⟩
        have hq24 := hq23.below hb24
        have hy24 := hy23.below hb24
        have hb24 := below_step hb23 hb24
        clear hq23 hy23 hb23
        go_wp2_with fail
        refine (C5.out w24 hb24).mono ?_
        rintro e w25 ⟨rfl, hb25⟩
        have hq25 := hq24.below hb25
        have hy25 := hy24.below hb25
        have hb25 := below_step hb24 hb25
        clear hq24 hy24 hb24
        go_wp2_with fail
        refine (errs_calls _ 0 2 [X1, X2] _ (by simp) (by exact nums2 _ _ _ _ )).mono ?_
        rintro e w26 ⟨rfl, hw26⟩
        have hq26 := hq25.below (below_alloc w25 (.cells #[.int .i64 X1, .int .i64 X2] 32))
        have hy26 := hy25.below (below_alloc w25 (.cells #[.int .i64 X1, .int .i64 X2] 32))
        have hb26 := below_step hb25 (below_alloc w25 (.cells #[.int .i64 X1, .int .i64 X2] 32))
        rw [hw26] at hq26 hy26 hb26
        clear hw26 hq25 hy25 hb25
        rw [HX5.out]
        go_wp2_with fail
        refine (equal_calls _ _ _ _ R3 R3 w26 hq26 hy26 HL.out HL.out).mono ?_
        rintro e w27 ⟨rfl, hb27⟩
        rw [decide_eq_true rfl]
        have hb27 := below_step hb26 hb27
        clear hq26 hy26 hb26
        go_wp2_with fail
        refine (C16.out w27 hb27).mono ?_
        rintro e w28 ⟨rfl, hb28⟩
        go_wp2_with fail
        go_ret
        exact ⟨rfl, below_step HB8.out (below_step hb27 hb28)⟩
end Go.Proofs.YtiedmbgdmafhaaaGreatDoor
