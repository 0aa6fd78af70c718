/- The law WorthsTold. -/
import Derived.Test.YtddnnjblpgfjeaaGreatDoorMgbd
import Derived.Test.YtddnnjblpgfjeaaGreatDoorMgbf
namespace Go.Proofs.YtddnnjblpgfjeaaGreatDoor
open Go.RowKit

theorem first_three (a b c : Int) : firstE [a, b, c] = firstE [firstE [a, b], c] := by
 rw [then_first3, then_first, then_first]
 by_cases h : a = 0
 ·rw [if_pos h, if_pos h]
 ·rw [if_neg h, if_neg h, if_neg h]
theorem pa_nil (w : World) (lo : Nat) : Pas w lo (.slice none 0 0) [] := ⟨by simp, by simp, .inl ⟨rfl, rfl⟩⟩
theorem pricesV_len (l : List OvD) (t b : Int) (h : l.length ≤ 12) : (pricesV l t b).1.length ≤ 1000000 := by
 unfold pricesV
 split
 ·simp
 ·split
  ·simp
  ·show (pairO _ _ _).length ≤ _
   rw [pairO_len]; have : (paidO l).length ≤ l.length := List.length_filter_le _ _
   omega
set_option maxRecDepth 100000 in
set_option maxHeartbeats 16000000 in
theorem worths_law (lv : Value) (w : World) (hl : Tape w lv) (hD : DigB w) : Calls Tryz.prog 4 #[lv] w (BoolIs true w) := by
 have hs1 := hl.stm 25
 obtain ⟨la, ln, lc, rfl⟩ := hl.shape
 have HD := Lib.hid hD
 clear hl hD
 go_enter Tryz.func4, Tryz.ntmps4
 go_wp2_with fail
 have hb1 := below_alloc w (.cells #[.slice la ln lc, .int .i64 0] 25)
 refine (assetList_calls w.heap.size 0 S_a _ hs1 (by omega) (by decide) (digs HD.out hb1 (Nat.le_refl _))).mono ?_
 rintro e w2 ⟨va, ⟨xs, hA, hxl, hxs⟩, rfl, hs2, hg2⟩
 have hb2 := Below.grownB hb1 (Nat.le_refl _) hg2
 have hlo1 : w.heap.size < (w.alloc (.cells #[.slice la ln lc, .int .i64 0] 25)).heap.size := by simp
 have Hxs := Lib.hid hxs
 obtain ⟨a, c, rfl⟩ := as_shape hA
 clear hs1 hg2 hxs hb1
 generalize (w.alloc (.cells #[.slice la ln lc, .int .i64 0] 25)).heap.size = lo1 at hA hlo1
 go_wp2_with fail
 refine (placeList_calls w.heap.size _ w2 hs2 (by omega)).mono ?_
 rintro e w3 ⟨vp, ⟨ps, hP, hpl, hps⟩, rfl, hs3, hg3⟩
 have hlo2 := hs2.lt
 have hb3 := Below.grownB hb2 (Nat.le_refl _) hg3
 have hA3 := Ass.other hA hg3 hlo1
 have Hps := Lib.hid hps
 obtain ⟨pa, pc, rfl⟩ := pl_shape hP
 clear hs2 hg3 hps hA hb2
 generalize w2.heap.size = lo2 at hP hlo2
 go_wp2_with fail
 have hb3a := below_step hb3 (below_alloc w3 (.cells #[.int .i64 1, .int .i64 1, .int .i64 2, .int .i64 3, .int .i64 0, .int .i64 21] 3))
 refine (pick_calls w.heap.size _ w3.heap.size _ [1, 1, 2, 3, 0, 21] _ (hs3.alloc _) (by omega) (ints_new w3 [1, 1, 2, 3, 0, 21] (by decide)) hs3.lt (by simp)).mono ?_
 rintro e w4 ⟨v, ⟨t, rfl, ht⟩, rfl, hs4, hg4⟩
 have hb4 := Below.grownB hb3a (Nat.le_refl _) hg4
 have hA4 := Ass.other (hA3.below (below_alloc w3 (.cells #[.int .i64 1, .int .i64 1, .int .i64 2, .int .i64 3, .int .i64 0, .int .i64 21] 3))) hg4 hlo1
 have hP4 := Pls.other (hP.below (below_alloc w3 (.cells #[.int .i64 1, .int .i64 1, .int .i64 2, .int .i64 3, .int .i64 0, .int .i64 21] 3))) hg4 hlo2
 clear hs3 hg4 hA3 hP hb3 hb3a ht
 go_wp2_with fail
 have hb4a := below_step hb4 (below_alloc w4 (.cells #[.int .i64 0, .int .i64 1, .int .i64 10, .int .i64 10, .int .i64 100, .int .i64 (-1)] 3))
 refine (pick_calls w.heap.size _ w4.heap.size _ [0, 1, 10, 10, 100, -1] _ (hs4.alloc _) (by omega) (ints_new w4 [0, 1, 10, 10, 100, -1] (by decide)) hs4.lt (by simp)).mono ?_
 rintro e W ⟨v, ⟨b, rfl, hbb⟩, rfl, hs5, hg5⟩
 have hbW := Below.grownB hb4a (Nat.le_refl _) hg5
 have hAW := Ass.other (hA4.below (below_alloc w4 (.cells #[.int .i64 0, .int .i64 1, .int .i64 10, .int .i64 10, .int .i64 100, .int .i64 (-1)] 3))) hg5 hlo1
 have hPW := Pls.other (hP4.below (below_alloc w4 (.cells #[.int .i64 0, .int .i64 1, .int .i64 10, .int .i64 10, .int .i64 100, .int .i64 (-1)] 3))) hg5 hlo2
 clear hs4 hs5 hg5 hA4 hP4 hb4 hb4a hbb
 have HDW : Hid (∀ w', Below W.heap.size W w' → DigB w') := Lib.hid (fun w' hb w2 hb2 => HD.out w2 (below_step (below_step hbW hb) hb2))
 have HA26 := Lib.hid (asFault_calls lo1 _ xs W hAW Hxs.out (by omega))
 have HP27 := Lib.hid (fun w' (hb : Below W.heap.size W w') => plFault_calls lo2 _ ps w' (hPW.below hb) Hps.out (by omega))
 have HA28 := Lib.hid (fun w' (hb : Below W.heap.size W w') => asCheck_calls lo1 _ xs w' (hAW.below hb) Hxs.out (by omega))
 have HP29 := Lib.hid (fun w' (hb : Below W.heap.size W w') => plCheck_calls lo2 _ ps w' (hPW.below hb) Hps.out (by omega))
 have HLw := Lib.hid (fun (h : leagueE xs ps t ≠ 0) w' (hb : Below W.heap.size W w') => levels_wrong lo1 lo2 _ _ xs ps t w' (hAW.below hb) Hxs.out (by omega) (hPW.below hb) Hps.out (by omega) h)
 have HWw := Lib.hid (fun (h : leagueE xs ps t ≠ 0) w' (hb : Below W.heap.size W w') => worths_wrong lo1 lo2 _ _ xs ps t w' (hAW.below hb) Hxs.out (by omega) (hPW.below hb) Hps.out (by omega) h)
 have HPw := Lib.hid (fun (h : spanE xs ps t b ≠ 0) w' (hb : Below W.heap.size W w') => prices_wrong lo1 lo2 _ _ xs ps t b w' (hAW.below hb) Hxs.out (by omega) (hPW.below hb) Hps.out (by omega) h)
 have HLt := Lib.hid (fun (h : leagueE xs ps t = 0) w' (hb : Below W.heap.size W w') => levels_tell lo1 lo2 _ _ xs ps t w' (hAW.below hb) (hPW.below hb) (by omega) Hxs.out Hps.out (HDW.out w' hb) h)
 have HWt := Lib.hid (fun (h : leagueE xs ps t = 0) w' (hb : Below W.heap.size W w') => worths_tell lo1 lo2 _ _ xs ps t w' (hAW.below hb) (hPW.below hb) (by omega) Hxs.out Hps.out h)
 have HPt := Lib.hid (fun (h : spanE xs ps t b = 0) w' (hb : Below W.heap.size W w') => prices_tell lo1 lo2 _ _ xs ps t b w' (hAW.below hb) (hPW.below hb) (by omega) Hxs.out Hps.out (HDW.out w' hb) h)
 have HLr := Lib.hid (fun (h : leagueE xs ps t = 0) w' (hb : Below W.heap.size W w') => levelsOf_tell lo1 lo2 _ _ xs ps t w' (hAW.below hb) (hPW.below hb) (by omega) Hps.out (HDW.out w' hb) h)
 have HWr := Lib.hid (fun (h : leagueE xs ps t = 0) w' (hb : Below W.heap.size W w') => worthsFor_tell lo1 lo2 _ _ xs ps t w' (hAW.below hb) (hPW.below hb) (by omega) Hxs.out Hps.out h)
 have HPr := Lib.hid (fun (h : spanE xs ps t b = 0) w' (hb : Below W.heap.size W w') => pricesOf_tell lo1 lo2 _ _ xs ps t b w' (hAW.below hb) (hPW.below hb) (by omega) Hxs.out Hps.out (HDW.out w' hb) h)
 have HLE := Lib.hid (show firstE [chkA xs, chkP ps, unlessE (betwB t 1 20) 1] = leagueE xs ps t from first_three _ _ _)
 have HSE := Lib.hid (show spanE xs ps t b = firstE [leagueE xs ps t, unlessE (betwB b 0 1000000) 1] from rfl)
 have HWl := Lib.hid (fun (h : leagueE xs ps t = 0) => show (wsR xs ps t).length ≤ 12 from Nat.le_trans (wsR_len (rightL h)) (by omega))
 have HPl := Lib.hid (fun (h : leagueE xs ps t = 0) => pricesV_len (wsR xs ps t) t b (HWl.out h))
 have HLl := Lib.hid (show (pairF (fun y => levelR xs y t) ps).length ≤ 1000000 by unfold pairF; rw [List.length_map]; omega)
 generalize pricesV (wsR xs ps t) t b = PV at HPt HPr HPl
 generalize wsR xs ps t = WS at HWt HWr HWl
 generalize pairF (fun y => levelR xs y t) ps = LV at HLt HLr HLl
 generalize spanE xs ps t b = SE at HPw HPt HPr HSE
 generalize leagueE xs ps t = LE at HLw HWw HLt HWt HLr HWr HLE HSE HWl HPl
 generalize chkA xs = A0' at HA26 HA28 HLE
 generalize chkP ps = P0' at HP27 HP29 HLE
 generalize xs.length = n at *
 generalize ps.length = np at *
 clear hAW hPW HDW
 go_wp2_with fail
 refine HA26.out.mono ?_
 rintro e w7 ⟨rfl, hb7⟩
 go_wp2_with fail
 refine (HP27.out w7 hb7).mono ?_
 rintro e w8 ⟨rfl, hbk⟩
 have hb8 := below_step hb7 hbk
 clear HA26 HP27 hb7 hbk
 go_wp2_with fail
 refine (HA28.out w8 hb8).mono ?_
 rintro e w9 ⟨rfl, hbk⟩
 have hb9 := below_step hb8 hbk
 clear HA28 hbk hb8
 go_wp2_with fail
 refine (HP29.out w9 hb9).mono ?_
 rintro e w10 ⟨rfl, hbk⟩
 have hb10 := below_step hb9 hbk
 clear HP29 hbk hb9
 by_cases hLE : LE = 0
 ·have hWl := HWl.out hLE
  have hPl := HPl.out hLE; have h0 := hLE; subst hLE; have e0 : ((0 : Int) != 0) = false := rfl
  go_wp2_with fail
  refine (HLt.out (by trivial) w10 hb10).mono ?_
  rintro e w11 ⟨vx, hOx, rfl, hbk⟩; have hb11 := below_step hb10 hbk; have HX := Lib.hid (pa_of_owns hOx HLl.out); obtain ⟨xa, xc, rfl⟩ := pa_shape HX.out; clear hbk hb10 hOx; go_wp2_with fail
  refine (HWt.out (by trivial) w11 hb11).mono ?_
  rintro e w12 ⟨vy, hFy, rfl, hbk⟩; have hb12 := below_step hb11 hbk; have HY := Lib.hid (hFy.ovs (by omega))
  obtain ⟨ya, yc, rfl⟩ := ov_shape HY.out; replace HX := Lib.hid (HX.out.below hbk); clear hbk hb11 hFy; by_cases hSE : SE = 0
  ·subst hSE
   go_wp2_with fail
   refine (HPt.out (by trivial) w12 hb12).mono ?_
   rintro e w13 ⟨vr, hOr, rfl, hbk⟩; have hb13 := below_step hb12 hbk; have HR := Lib.hid (pa_of_owns hOr hPl); obtain ⟨ra, rc, rfl⟩ := pa_shape HR.out; replace HX := Lib.hid (HX.out.below hbk); replace HY := Lib.hid (HY.out.below hbk); obtain ⟨p1, p2⟩ := PV; dsimp only at *
   clear hbk hb12 hOr; go_wp2_with fail
   refine (span_calls _ _ _ _).mono ?_; rintro e w' ⟨rfl, rfl⟩; go_wp2_with fail
   refine (orE_calls _ 0 3 [A0', P0', unlessE (betwB t 1 20) 1] _ (by simp) (by exact nums3v _ _ _ _ _)).mono ?_
   rintro e w' ⟨rfl, rfl⟩; rw [HLE.out]; obtain ⟨w14, hw14⟩ : ∃ w14, w14 = w13.alloc (.cells #[.int .i64 A0', .int .i64 P0', .int .i64 (unlessE (betwB t 1 20) 1)] 34) := ⟨_, rfl⟩
   have hb1314 : Below w13.heap.size w13 w14 := by rw [hw14]; exact below_alloc w13 _
   have hb14 := below_step hb13 hb1314; go_upto_region 10 with fail
   rw [← hw14]; clear hw14; go_wp2_with fail
   refine (span_calls _ _ _ _).mono ?_; rintro e w' ⟨rfl, rfl⟩; go_wp2_with fail
   refine (orE_calls _ 0 2 [0, unlessE (betwB b 0 1000000) 1] _ (by simp) (by exact nums2 _ _ _ _)).mono ?_
   rintro e w' ⟨rfl, rfl⟩; rw [← HSE.out]; obtain ⟨w15, hw15⟩ : ∃ w15, w15 = w14.alloc (.cells #[.int .i64 0, .int .i64 (unlessE (betwB b 0 1000000) 1)] 34) := ⟨_, rfl⟩
   have hb1415 : Below w14.heap.size w14 w15 := by rw [hw15]; exact below_alloc w14 _
   have hb15 := below_step hb14 hb1415; have hb1315 := below_step hb1314 hb1415; go_upto_region 11 with fail
   rw [← hw15]; clear hw15 hb13 hb14 hb1314 hb1415 HLE HSE; replace HR := Lib.hid (HR.out.below hb1315); replace HX := Lib.hid (HX.out.below hb1315); replace HY := Lib.hid (HY.out.below hb1315); clear hb1315; go_wp2_with fail
   refine (HPr.out (by trivial) w15 hb15).mono ?_
   rintro e w15b ⟨vs, hOs, rfl, hbk⟩; have hb15b := below_step hb15 hbk; have HSs := Lib.hid (pa_of_owns hOs hPl); obtain ⟨sa, sc, rfl⟩ := pa_shape HSs.out; have HEQ := Lib.hid (equalPa_calls _ _ _ _ p1 p1 w15b (HR.out.below hbk) HSs.out hPl hPl); rw [decide_eq_true rfl] at HEQ
   replace HX := Lib.hid (HX.out.below hbk); replace HY := Lib.hid (HY.out.below hbk); clear hbk hOs HR HSs hb15; dsimp only at *
   go_wp2_with fail
   refine HEQ.out.mono ?_; rintro e w16 ⟨rfl, hbk⟩; have hb16 := below_step hb15b hbk; replace HX := Lib.hid (HX.out.below hbk); replace HY := Lib.hid (HY.out.below hbk); clear HEQ hbk hb15b; go_wp2_with fail
   refine (HLr.out (by trivial) w16 hb16).mono ?_
   rintro e w17 ⟨vz, hOz, rfl, hbk⟩; have hb17 := below_step hb16 hbk; have HZ := Lib.hid (pa_of_owns hOz HLl.out); obtain ⟨za, zc, rfl⟩ := pa_shape HZ.out; have HE1 := Lib.hid (equalPa_calls _ _ _ _ LV LV w17 (HX.out.below hbk) HZ.out HLl.out HLl.out); rw [decide_eq_true rfl] at HE1
   replace HY := Lib.hid (HY.out.below hbk); clear hbk hOz HX HZ hb16; go_wp2_with fail
   refine HE1.out.mono ?_; rintro e w18 ⟨rfl, hbk⟩; have hb18 := below_step hb17 hbk; replace HY := Lib.hid (HY.out.below hbk); clear HE1 hbk hb17; go_wp2_with fail
   refine (HWr.out (by trivial) w18 hb18).mono ?_
   rintro e w19 ⟨vq, hFq, rfl, hbk⟩; have hb19 := below_step hb18 hbk; have HQ := Lib.hid (hFq.ovs (by omega))
   obtain ⟨qa, qc, rfl⟩ := ov_shape HQ.out; have HE2 := Lib.hid (equalOv_calls _ _ _ _ WS WS w19 (HY.out.below hbk) HQ.out (by omega) (by omega))
   rw [decide_eq_true rfl] at HE2
   clear hbk hFq HY HQ hb18; go_wp2_with fail
   refine HE2.out.mono ?_; rintro e w20 ⟨rfl, hbk⟩; have hb20 := below_step hb19 hbk; have HV := Lib.hid (valued_calls w20); clear HE2 hbk hb19; go_wp2_with fail
   refine HV.out.mono ?_; rintro e w21 ⟨rfl, hbk⟩; have hbe := below_step hbW (below_step hb20 hbk); go_wp2_with fail
   go_ret
   exact ⟨rfl, hbe⟩
  ·have e4 : (SE == 0) = false := by simp [hSE]
   go_wp2_with fail
   refine (HPw.out hSE w12 hb12).mono ?_; rintro e w13 ⟨rfl, hbk⟩; have hb13 := below_step hb12 hbk; replace HX := Lib.hid (HX.out.below hbk); replace HY := Lib.hid (HY.out.below hbk); clear hbk hb12; go_wp2_with fail
   refine (span_calls _ _ _ _).mono ?_; rintro e w' ⟨rfl, rfl⟩; go_wp2_with fail
   refine (orE_calls _ 0 3 [A0', P0', unlessE (betwB t 1 20) 1] _ (by simp) (by exact nums3v _ _ _ _ _)).mono ?_
   rintro e w' ⟨rfl, rfl⟩; rw [HLE.out]; obtain ⟨w14, hw14⟩ : ∃ w14, w14 = w13.alloc (.cells #[.int .i64 A0', .int .i64 P0', .int .i64 (unlessE (betwB t 1 20) 1)] 34) := ⟨_, rfl⟩
   have hb1314 : Below w13.heap.size w13 w14 := by rw [hw14]; exact below_alloc w13 _
   have hb14 := below_step hb13 hb1314; go_upto_region 10 with fail
   rw [← hw14]; clear hw14; go_wp2_with fail
   refine (span_calls _ _ _ _).mono ?_; rintro e w' ⟨rfl, rfl⟩; go_wp2_with fail
   refine (orE_calls _ 0 2 [0, unlessE (betwB b 0 1000000) 1] _ (by simp) (by exact nums2 _ _ _ _)).mono ?_
   rintro e w' ⟨rfl, rfl⟩; rw [← HSE.out]; obtain ⟨w15, hw15⟩ : ∃ w15, w15 = w14.alloc (.cells #[.int .i64 0, .int .i64 (unlessE (betwB b 0 1000000) 1)] 34) := ⟨_, rfl⟩
   have hb1415 : Below w14.heap.size w14 w15 := by rw [hw15]; exact below_alloc w14 _
   have hb15 := below_step hb14 hb1415; have hb1315 := below_step hb1314 hb1415; go_upto_region 11 with fail
   rw [← hw15]
   clear hw15 hb13 hb14 hb1314 hb1415 HLE HSE

   have HEQ := Lib.hid (equalPa_calls 0 0 _ _ [] [] w15 (pa_nil _ _) (pa_nil _ _) (by simp) (by simp))
   rw [decide_eq_true rfl] at HEQ
   go_wp2_with fail
   refine HEQ.out.mono ?_; rintro e w16 ⟨rfl, hbk⟩; have hb16 := below_step hb15 hbk; replace HX := Lib.hid ((HX.out.below hb1315).below hbk); replace HY := Lib.hid ((HY.out.below hb1315).below hbk); clear HEQ hbk hb15 hb1315; go_wp2_with fail
   refine (HLr.out (by trivial) w16 hb16).mono ?_
   rintro e w17 ⟨vz, hOz, rfl, hbk⟩; have hb17 := below_step hb16 hbk; have HZ := Lib.hid (pa_of_owns hOz HLl.out); obtain ⟨za, zc, rfl⟩ := pa_shape HZ.out; have HE1 := Lib.hid (equalPa_calls _ _ _ _ LV LV w17 (HX.out.below hbk) HZ.out HLl.out HLl.out); rw [decide_eq_true rfl] at HE1
   replace HY := Lib.hid (HY.out.below hbk); clear hbk hOz HX HZ hb16; go_wp2_with fail
   refine HE1.out.mono ?_; rintro e w18 ⟨rfl, hbk⟩; have hb18 := below_step hb17 hbk; replace HY := Lib.hid (HY.out.below hbk); clear HE1 hbk hb17; go_wp2_with fail
   refine (HWr.out (by trivial) w18 hb18).mono ?_
   rintro e w19 ⟨vq, hFq, rfl, hbk⟩; have hb19 := below_step hb18 hbk; have HQ := Lib.hid (hFq.ovs (by omega))
   obtain ⟨qa, qc, rfl⟩ := ov_shape HQ.out; have HE2 := Lib.hid (equalOv_calls _ _ _ _ WS WS w19 (HY.out.below hbk) HQ.out (by omega) (by omega))
   rw [decide_eq_true rfl] at HE2
   clear hbk hFq HY HQ hb18; go_wp2_with fail
   refine HE2.out.mono ?_; rintro e w20 ⟨rfl, hbk⟩; have hb20 := below_step hb19 hbk; have HV := Lib.hid (valued_calls w20); clear HE2 hbk hb19; go_wp2_with fail
   refine HV.out.mono ?_; rintro e w21 ⟨rfl, hbk⟩; have hbe := below_step hbW (below_step hb20 hbk); go_wp2_with fail
   go_ret
   exact ⟨rfl, hbe⟩
 ·have hS : SE = LE := by rw [HSE.out, then_first, if_neg hLE]
  have e0 : (LE != 0) = true := by simp [hLE]
  have e3 : (LE == 0) = false := by simp [hLE]
  go_wp2_with fail
  refine (HLw.out hLE w10 hb10).mono ?_; rintro e w11 ⟨rfl, hbk⟩; have hb11 := below_step hb10 hbk; clear hbk hb10; go_wp2_with fail
  refine (HWw.out hLE w11 hb11).mono ?_; rintro e w12 ⟨rfl, hbk⟩; have hb12 := below_step hb11 hbk; clear hbk hb11; go_wp2_with fail
  refine (HPw.out (by rw [hS]; exact hLE) w12 hb12).mono ?_
  rintro e w13 ⟨rfl, hbk⟩; have hb13 := below_step hb12 hbk; clear hbk hb12; subst hS; go_wp2_with fail
  refine (span_calls _ _ _ _).mono ?_; rintro e w' ⟨rfl, rfl⟩; go_wp2_with fail
  refine (orE_calls _ 0 3 [A0', P0', unlessE (betwB t 1 20) 1] _ (by simp) (by exact nums3v _ _ _ _ _)).mono ?_
  rintro e w' ⟨rfl, rfl⟩; rw [HLE.out]; obtain ⟨w14, hw14⟩ : ∃ w14, w14 = w13.alloc (.cells #[.int .i64 A0', .int .i64 P0', .int .i64 (unlessE (betwB t 1 20) 1)] 34) := ⟨_, rfl⟩
  have hb1314 : Below w13.heap.size w13 w14 := by rw [hw14]; exact below_alloc w13 _
  have hb14 := below_step hb13 hb1314; go_upto_region 10 with fail
  rw [← hw14]; clear hw14; go_wp2_with fail
  refine (span_calls _ _ _ _).mono ?_; rintro e w' ⟨rfl, rfl⟩; go_wp2_with fail
  refine (orE_calls _ 0 2 [SE, unlessE (betwB b 0 1000000) 1] _ (by simp) (by exact nums2 _ _ _ _)).mono ?_
  rintro e w' ⟨rfl, rfl⟩; rw [← HSE.out]; obtain ⟨w15, hw15⟩ : ∃ w15, w15 = w14.alloc (.cells #[.int .i64 SE, .int .i64 (unlessE (betwB b 0 1000000) 1)] 34) := ⟨_, rfl⟩
  have hb1415 : Below w14.heap.size w14 w15 := by rw [hw15]; exact below_alloc w14 _
  have hb15 := below_step hb14 hb1415; have hb1315 := below_step hb1314 hb1415; go_upto_region 11 with fail
  rw [← hw15]; clear hw15 hb13 hb14 hb1314 hb1415 HLE HSE; have HEQ := Lib.hid (equalPa_calls 0 0 _ _ [] [] w15 (pa_nil _ _) (pa_nil _ _) (by simp) (by simp))
  rw [decide_eq_true rfl] at HEQ
  go_wp2_with fail
  refine HEQ.out.mono ?_; rintro e w16 ⟨rfl, hbk⟩; have hb16 := below_step hb15 hbk; have HV := Lib.hid (valued_calls w16); clear HEQ hbk hb15; go_wp2_with fail
  refine HV.out.mono ?_; rintro e w19 ⟨rfl, hbk⟩; have hbe := below_step hbW (below_step hb16 hbk); go_wp2_with fail
  go_ret
  exact ⟨rfl, hbe⟩
end Go.Proofs.YtddnnjblpgfjeaaGreatDoor
