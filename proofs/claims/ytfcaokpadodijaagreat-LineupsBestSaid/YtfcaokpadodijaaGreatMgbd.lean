/- LineupsBest: the law's walk. -/
import Derived.Test.YtfcaokpadodijaaGreatMgaz
import Derived.Test.YtfcaokpadodijaaGreatMgap
import Derived.Test.YtfcaokpadodijaaGreatMgay
import Derived.Test.YtfcaokpadodijaaGreatMgan
import Derived.Test.YtfcaokpadodijaaGreatMgba
import Derived.Test.YtfcaokpadodijaaGreatMgbb
import Derived.Test.YtfcaokpadodijaaGreatMgbc
import Derived.Test.YtfcaokpadodijaaGreatMgaf
import Derived.Deep.CutRange
namespace Go.Proofs.YtfcaokpadodijaaGreat
open Go.RowKit

theorem fr_neB : 34 ≠ 9 := by decide
theorem fr_neF : 34 ≠ 49 := by decide
theorem set_frB {w : World} {X : Nat} {a0 b0 : Value} (h : w.heap[X]? = some (.cells #[a0, b0] 34 (0, 0))) (a b : Value) :
  ∃ W, (w.setCell ⟨X, 0, none⟩ a).setCell ⟨X, 1, none⟩ b = W ∧ W.heap[X]? = some (.cells #[a, b] 34 (0, 0)) ∧ (∀ (lo T sz : Nat) (v : Value) (rows : List (List Value)), 34 ≠ T → Rows w T lo sz v rows → Rows W T lo sz v rows) ∧ ∀ (c : Nat) (w0 : World), c ≤ X → Below c w0 w → Below c w0 W :=
 ⟨_, rfl, set_cells (o := 1) (set_cells (o := 0) h a) b, fun _ _ _ _ _ hT hr => rows_far (rows_far hr h hT) (set_cells h a) hT, fun _ _ hc hb => below_set (below_set hb hc a) hc b⟩
/-- What is drawn: right or wrong sides, names. -/
def LbB (lo1 lo2 lo3 : Nat) (sv cv kv : Value) (ss : List SlD) (cs : List ScD) (ks : List ByteArray) (w : World) : Prop :=
 Sls w lo1 sv ss ∧ Scs w lo2 cv cs ∧ Strs w lo3 kv ks
set_option maxRecDepth 100000 in
set_option maxHeartbeats 32000000 in
theorem best_law (lv : Value) (w : World) (hl : Tape w lv) : Calls Tryz.prog 4 #[lv] w (BoolIs true w) := by
 have hs1 := hl.stm 25
 obtain ⟨la, ln, lc, rfl⟩ := hl.shape
 clear hl
 go_enter Tryz.func4, Tryz.ntmps4
 go_wp2_with fail
 refine (slots_calls w.heap.size 0 _ hs1 (by omega)).mono ?_
 rintro e w1 ⟨vs, ⟨ss, hS, hsn, hsm⟩, rfl, hs1', hg1⟩
 have hb1 : Below w.heap.size w w1 := (below_alloc w _).grown hg1 (by simp) (fun r hr => by cases hr; exact Nat.le_refl _)
 have hlo1 : w.heap.size < (w.alloc (.cells #[.slice la ln lc, .int .i64 0] 25)).heap.size := by simp
 have hlo2 : w.heap.size < w1.heap.size := hs1'.lt
 generalize (w.alloc (.cells #[.slice la ln lc, .int .i64 0] 25)).heap.size = lo1 at hS hlo1
 have Hsm := Lib.hid hsm
 obtain ⟨sa, sc, rfl⟩ := NRows.shape hS
 clear hs1 hg1 hsm
 go_wp2_with fail
 refine (scorers_calls w.heap.size _ w1 hs1' (by omega)).mono ?_
 rintro e w2 ⟨vc, ⟨cs, hC, hcn, hcm⟩, rfl, hs2, hg2⟩
 have hz2 := hg2.size
 have hb2 := hb1.grown hg2 hb1.size (fun r hr => by cases hr; exact Nat.le_refl _)
 replace hS := NRows.other hS hg2 hlo1
 have Hcm := Lib.hid hcm
 obtain ⟨ca, cc, rfl⟩ := NRows.shape hC
 clear hs1' hg2 hcm hb1
 go_wp2_with fail
 refine (someOf_calls w.heap.size _ w1.heap.size _ cs w2 hs2 (by omega) hC hlo2 (by omega) Hcm.out).mono ?_
 rintro e w4 ⟨vb, ⟨ks, hown, hkl, hks⟩, rfl, hs4, hg4⟩
 have hbs : Below w.heap.size w w4 := hb2.grown hg4 hb2.size (fun r hr => by cases hr; exact Nat.le_refl _)
 replace hS := NRows.other hS hg4 hlo1
 replace hC := NRows.other hC hg4 hlo2
 have hK := strs_of_owns hown (show ks.length ≤ 1000000 by omega)
 obtain ⟨ka, kc, rfl⟩ := strs_shape hK
 have hz4 := hg4.size
 have HB := Lib.hid (show ∀ w', Below w4.heap.size w4 w' → LbB lo1 w1.heap.size w2.heap.size (.slice sa ss.length sc) (.slice ca cs.length cc) (.slice ka ks.length kc) ss cs ks w' from fun w' hb =>
  ⟨NRows.below hS hb, NRows.below hC hb, hK.below hb⟩)
 have HB0 := Lib.hid hbs
 have hloC : w1.heap.size ≤ w4.heap.size := by omega
 have hss : ss.length ≤ 1000 := by omega
 have hcs : cs.length ≤ 1000 := by omega
 have hkn : ks.length ≤ 7 := by omega
 have HSc := Lib.hid (fun h : sdE ss cs = 0 => (first2_zero (show firstE [chkSl ss, chkSc cs] = 0 from h)).2)
 have HS0 := Lib.hid (fun h : sdE ss cs = 0 => (show 0 < ss.length by
  have h1 := (first2_zero (show firstE [chkSl ss, chkSc cs] = 0 from h)).1
  unfold chkSl at h1
  have h2 := firstE_all h1 (unlessE (decide (0 < ss.length)) 8) (by simp)
  exact of_decide_eq_true (unless_true (e := 8) (by decide) h2)))
 have hfit : sdE ss cs = 0 → ∀ c ∈ cs, FitW c := fun h c hc => (sc_parts (HSc.out h) hc).2.2
 have C4 := Lib.hid (fun w' hb => scoreBest_calls w1.heap.size lo1 _ _ ss cs w' (HB.out w' hb).1 Hsm.out hss (HB.out w' hb).2.1 Hcm.out (by omega) (by have := hb.size; omega) hfit)
 have C5 := Lib.hid (fun w' hb => scoreCan_calls w1.heap.size lo1 w2.heap.size _ _ _ ss cs ks w' (HB.out w' hb).1 Hsm.out hss (HB.out w' hb).2.1 Hcm.out hcs (by have := hb.size; omega) (HB.out w' hb).2.2 (by omega))
 have C6 := Lib.hid (fun w' hb => lacking_calls w1.heap.size lo1 _ _ ss cs w' (HB.out w' hb).1 Hsm.out hss (HB.out w' hb).2.1 Hcm.out hcs)
 have CSf := Lib.hid (fun w' hb => slotsFault_calls lo1 _ ss w' (HB.out w' hb).1 Hsm.out)
 have CCf := Lib.hid (fun w' hb => scorersFault_calls w1.heap.size _ cs w' (HB.out w' hb).2.1 Hcm.out (by omega))
 have CWf := Lib.hid (fun (h : sdE ss cs = 0) w' hb => whoFault_calls w1.heap.size w2.heap.size _ _ cs ks w' (HB.out w' hb).2.1 (scs_sorted (HSc.out h)) (by omega) (HB.out w' hb).2.2 (by omega))
 have CBf := Lib.hid (fun (h : sdE ss cs = 0) w' hb => bestOf_calls cs ss lo1 w1.heap.size _ _ w' (HB.out w' hb).1 (HB.out w' hb).2.1 (HS0.out h) hsn hcn (hfit h) (fun c hc => (sc_parts (HSc.out h) hc).2.1) (scs_sorted (HSc.out h)) (fun c hc => (sc_parts (HSc.out h) hc).1))
 have CLo := Lib.hid (fun (h : sdE ss cs = 0) w' hb => lackingOf_calls lo1 w1.heap.size _ _ ss cs w' (HB.out w' hb).1 (HB.out w' hb).2.1 (HS0.out h) (by omega) hcn)
 have CCo := Lib.hid (fun (h : whE ss cs ks = 0) w' hb => (show Calls Tryz.prog 35 #[.slice sa ss.length sc, .slice ca cs.length cc, .slice ka ks.length kc] w' (BoolIs (canL cs ss ks ks.length) w') from by
  obtain ⟨h1, h2⟩ := first2_zero (show firstE [sdE ss cs, wnE cs [] ks] = 0 from h)
  exact canOf_calls lo1 w1.heap.size w2.heap.size _ _ _ ss cs ks w' (HB.out w' hb).1 (HB.out w' hb).2.1 (HB.out w' hb).2.2 (scs_sorted (HSc.out h1)) (HS0.out h1) (by omega) hkn hcs (wn_known h2)))
 -- the values that both sides give
 have HX0 := Lib.hid (fun h : sdE ss cs = 0 => (show bexL ss cs = finL cs ss 0 (luN cs ss 0 0).who by unfold bexL; rw [if_pos h, (bst_luN (HSc.out h)).1]))
 have HX1 := Lib.hid (fun h : sdE ss cs ≠ 0 => (show bexL ss cs = [] by unfold bexL; rw [if_neg h]))
 have HN0 := Lib.hid (fun h : sdE ss cs = 0 => (show bexF ss cs = lowF (luN cs ss 0 0).sum 100 by unfold bexF; rw [if_pos h, (bst_luN (HSc.out h)).2]))
 have HN1 := Lib.hid (fun h : sdE ss cs ≠ 0 => (show bexF ss cs = (0, 0) by unfold bexF; rw [if_neg h]))
 have HK0 := Lib.hid (fun h : sdE ss cs = 0 => (show lakL cs ss = lkL cs ss ss.length by unfold lakL; rw [if_pos h]))
 have HK1 := Lib.hid (fun h : sdE ss cs ≠ 0 => (show lakL cs ss = [] by unfold lakL; rw [if_neg h]))
 have HKl := Lib.hid (show (lakL cs ss).length ≤ 1000000 by
  unfold lakL; split
  ·have := lkL_len cs ss ss.length; omega
  ·simp)
 have HXl := Lib.hid (show (bexL ss cs).length ≤ 1000000 by
  unfold bexL; split
  ·rw [bstF_length]; omega
  ·simp)
 have HSl := Lib.hid (fun h : sdE ss cs = 0 => lu_small (ss := ss) (HSc.out h) (by omega))
 have HWe := Lib.hid (show whE ss cs ks = firstE [sdE ss cs, wnE cs [] ks] from rfl)
 have HCb := Lib.hid (show canB ss cs ks = (decide (whE ss cs ks = 0) && canL cs ss ks ks.length) from rfl)
 have HSd := Lib.hid (show firstE [chkSl ss, chkSc cs] = sdE ss cs from rfl)
 clear hS hC hK hbs hb2 hown hkl hks hs2 hs4 hg4 hfit HSc HS0
 have hbx := Below.refl w4.heap.size w4
 unfold BexV at C4
 unfold CanV at C5
 unfold LakV at C6
 unfold BofV at CBf
 generalize bexF ss cs = fr at C4 HN0 HN1
 generalize bexL ss cs = BL at C4 HX0 HX1 HXl
 generalize lakL cs ss = KL at C6 HK0 HK1 HKl
 generalize canB ss cs ks = CB at C5 HCb
 generalize whE ss cs ks = WE at C5 CCo HWe HCb
 generalize wnE cs [] ks = NE at CWf HWe
 generalize canL cs ss ks ks.length = CL at CCo HCb
 generalize luN cs ss 0 0 = lu at CBf HX0 HN0 HSl
 generalize finL cs ss 0 lu.who = FL at CBf HX0
 generalize lkL cs ss ss.length = LK at CLo HK0
 generalize sdE ss cs = SD at C4 C6 CWf CBf CLo HX0 HX1 HN0 HN1 HK0 HK1 HSl HWe HSd
 generalize chkSl ss = ES at CSf HSd
 generalize chkSc cs = EC at CCf HSd
 clear hloC
 go_upto_region 4 with fail
 go_wp2_with fail
 refine (C4.out w4 hbx).mono ?_
 rintro e w6 ⟨fv, rfl, hfv, hb6⟩
 unfold frV
 obtain ⟨fa, fc, rfl⟩ := fis_shape hfv
 clear C4 hbx
 go_upto_region 5 with fail
 obtain ⟨X8, W8, e8, f8, h8, hb8⟩ := any_box w6 (.cells #[.int .i64 fr.1, .int .i64 fr.2] 34)
 rw [f8, e8]
 have hb8' := below_step hb6 hb8
 have hfv8 := hfv.below hb8
 clear e8 f8 hb8 hb6 hfv
 go_wp2_with fail
 refine (C5.out W8 hb8').mono ?_
 rintro e w9 ⟨rfl, hb9⟩
 replace h8 := keep_heap h8 hb9
 have hfv9 := hfv8.below hb9
 have hb9' := below_step hb8' hb9
 clear C5 hb8' hb9 hfv8
 go_wp2_with fail
 refine (C6.out w9 hb9').mono ?_
 rintro e w11 ⟨kv, rfl, hkv, hb11⟩
 replace h8 := keep_heap h8 hb11
 have hfv11 := hfv9.below hb11
 obtain ⟨la', ll', lc', rfl⟩ := strs_shapeN hkv
 have HF := Lib.hid (fun w' (hb : Below w11.heap.size w11 w') => hfv11.below hb)
 have HKv := Lib.hid (fun w' (hb : Below w11.heap.size w11 w') => hkv.below hb)
 have HX := Lib.hid (fun w' (hb : Below w11.heap.size w11 w') => keep_heap h8 hb)
 have Hb11 := Lib.hid (below_step hb9' hb11)
 clear C6 hb9' hb11 hfv9 hfv11 hkv h8
 go_upto_region 7 with fail
 go_wp2_with fail
 refine (CSf.out w11 Hb11.out).mono ?_
 rintro e w12 ⟨rfl, hb12⟩
 go_wp2_with fail
 refine (CCf.out w12 (below_step Hb11.out hb12)).mono ?_
 rintro e w13 ⟨rfl, hb13⟩
 replace hb13 := below_step hb12 hb13
 clear hb12
 go_wp2_with fail
 refine (errs_calls _ 0 2 [ES, EC] _ (by simp) (by exact nums2 _ _ _ _)).mono ?_
 rintro e w14 ⟨rfl, rfl⟩
 rw [HSd.out]
 have hb14 := below_step hb13 (below_alloc w13 (.cells #[.int .i64 ES, .int .i64 EC] 35))
 generalize hW14 : w13.alloc (.cells #[.int .i64 ES, .int .i64 EC] 35) = W14 at hb14 ⊢
 clear hW14 hb13 HSd CSf CCf
 go_upto_if 59 with fail
 go_cut [15] from 21 to 121 (fun v we => v = .int .i64 WE ∧ Below w11.heap.size w11 we)
 case first =>
  by_cases hz : SD = 0
  ·subst hz
   have C := Lib.hid (CWf.out rfl W14 (below_step Hb11.out hb14)); have Hf := Lib.hid (show NE = WE by rw [HWe.out]; simp [firstE])
   clear CWf CBf CLo HX0 HX1 HN0 HN1 HK0 HK1 HSl HWe; go_wp2_with fail
   refine C.out.mono ?_; rintro e w15 ⟨rfl, hb15⟩; rw [Hf.out]; go_wp2_with fail
   go_meet
   case rel => exact ⟨rfl, below_step hb14 hb15⟩
  ·have hne : (SD == 0) = false := by rw [beq_eq_false_iff_ne]; exact hz
   have Hf := Lib.hid (show WE = SD by rw [HWe.out]; simp [firstE, hz])
   clear hz; go_wp2_with fail
   go_meet
   case rel => exact ⟨by rw [Hf.out], hb14⟩
 case rest =>
  obtain ⟨rfl, hbe⟩ := hcut; obtain ⟨w18, hw18⟩ : ∃ x, x = wc := ⟨_, rfl⟩
  rw [← hw18] at hbe ⊢
  clear hw18 hb14 CWf HWe; go_upto_if 65 with fail
  obtain ⟨X16, W16, e16, f16, h16, hb16⟩ := any_box w18 (.cells #[.int .i64 0, .int .i64 0] 34); have z16 : w18.heap.size ≤ X16 := by omega
  rw [f16, e16]; clear e16 f16; go_cut [16, 17, 19, 20] from 21 to 121 (fun v u _ _ wd => (∃ p n q, v = .slice p n q) ∧ (∃ p n q, u = .slice p n q) ∧ Fis wd 0 v BL ∧ Strs wd 0 u KL ∧ wd.heap[X16]? = some (.cells #[.int .i64 fr.1, .int .i64 fr.2] 34 (0, 0)) ∧ Below w18.heap.size w18 wd)
  case first =>
   by_cases hz : SD = 0
   ·subst hz
    have hb5 := below_step Hb11.out (below_step hbe hb16); have hx0 := HX0.out rfl; have hk0 := HK0.out rfl; subst hx0; subst hk0; have CB' := Lib.hid (CBf.out rfl W16 hb5)
    have CL' := Lib.hid (fun w' hb => CLo.out rfl w' hb)
    have hsl := HSl.out rfl
    have COf := Lib.hid (fun w' => (show Calls Tryz.prog 19 #[.int .i64 lu.sum] w' (fun e w'' => e = .returned (.agg #[.int .i64 fr.1, .int .i64 fr.2]) ∧ Below w'.heap.size w' w'') from by
     rw [HN0.out rfl]; exact ofHundredthsR_calls _ w' (by unfold Int64; omega)))
    have Hb5 := Lib.hid hb5; have H16 := Lib.hid h16; generalize lu.sum = sB at CB' COf
    clear CBf CLo HX0 HX1 HN0 HN1 HK0 HK1 HSl hb5 hsl h16; go_wp2_with fail
    refine CB'.out.mono ?_; rintro e w22 ⟨bx, rfl, hbx', hb22⟩; obtain ⟨fa', fc', rfl⟩ := fis_shape hbx'; have Hbx := Lib.hid (Rows.mono hbx' (Nat.zero_le _)); clear hbx'; go_wp2_with fail
    refine (COf.out w22).mono ?_; rintro e w24 ⟨rfl, hb24⟩; have Hbx2 := Lib.hid (Rows.below Hbx.out hb24); replace hb24 := below_step hb22 hb24; clear hb22 Hbx; go_wp2_with fail
    refine (CL'.out w24 (below_step Hb5.out hb24)).mono ?_; rintro e w25 ⟨wv, rfl, hws, hb25⟩; have Hbx3 := Lib.hid (Rows.below Hbx2.out hb25); replace hb25 := below_step hb24 hb25; have h16 := keep_heap H16.out hb25; have c0 := cell_at h16 0 rfl; have c1 := cell_at h16 1 rfl; have f0 := free_of h16 0; have f1 := free_of h16 1; obtain ⟨wa, wl, wcc, rfl⟩ := strs_shapeN hws; have Hws := Lib.hid hws; replace hb25 := below_step hb16 hb25; clear hb24 hws Hbx2; go_wp2_with fail
    go_meet
    case rel =>
     obtain ⟨V, eV, v1, v2, v3⟩ := set_frB h16 (.int .i64 fr.1) (.int .i64 fr.2); rw [eV]; exact ⟨⟨_, _, _, rfl⟩, ⟨_, _, _, rfl⟩, v2 _ _ _ _ _ fr_neF Hbx3.out, v2 _ _ _ _ _ fr_neB Hws.out, v1, v3 _ _ z16 hb25⟩
   ·have hne : (SD == 0) = false := by rw [beq_eq_false_iff_ne]; exact hz
    have hfr := HN1.out hz; have hbl := HX1.out hz; have hkl := HK1.out hz; clear hz; go_wp2_with fail
    go_meet
    case rel => rw [hfr, hbl, hkl]; exact ⟨⟨_, _, _, rfl⟩, ⟨_, _, _, rfl⟩, fis_nil _ _, strs_nilF _ _, h16, hb16⟩
  case rest =>
   obtain ⟨⟨p, n, q, rfl⟩, ⟨p', n', q', rfl⟩, hwf, hws, h16, hbv⟩ := hcut
   obtain ⟨w25, hw25⟩ : ∃ x, x = wc := ⟨_, rfl⟩
   rw [← hw25] at hwf hws h16 hbv ⊢
   clear hw25 CBf CLo HX0 HX1 HN0 HN1 HK0 HK1 HSl hb16; have HbV := Lib.hid (below_step hbe hbv); have HY := Lib.hid (fun w' (hb : Below w25.heap.size w25 w') => And.intro (HX.out w' (below_step HbV.out hb)) (keep_heap h16 hb))
   have HW := Lib.hid (fun w' (hb : Below w25.heap.size w25 w') => below_step Hb11.out (below_step HbV.out hb))
   have CE := Lib.hid (show Calls Tryz.prog 34 #[.slice fa BL.length fc, .slice p n q] w25 (BoolIs true w25) from by
    have h := equalFi_calls 0 0 (.slice fa BL.length fc) (.slice p n q) BL BL w25 (HF.out w25 HbV.out) hwf HXl.out HXl.out; rwa [decide_eq_true rfl] at h)
   have CE2 := Lib.hid (fun w' (hb : Below w25.heap.size w25 w') => (show Calls Tryz.prog 26 #[.slice la' ll' lc', .slice p' n' q'] w' (BoolIs true w') from by
    have h := equal_calls 0 0 (.slice la' ll' lc') (.slice p' n' q') KL KL w' (HKv.out w' (below_step HbV.out hb)) (hws.below hb) HKl.out HKl.out; rwa [decide_eq_true rfl] at h))
   have q1 : (SD == SD) = true := by simp
   have q2 : (WE == WE) = true := by simp
   clear hwf hws h16 hbv hbe HF HKv HX HKl HXl; go_wp2_with fail
   refine CE.out.mono ?_; rintro e w30 ⟨rfl, hb30⟩; obtain ⟨x8, x16⟩ := HY.out w30 hb30; have a0 := cell_at x8 0 rfl; have a1 := cell_at x8 1 rfl; have c0 := cell_at x16 0 rfl; have c1 := cell_at x16 1 rfl; clear x8 x16; by_cases hz : WE = 0
   ·subst hz
    have hcb : CB = CL := by rw [HCb.out]; simp
    subst hcb; have CC := Lib.hid (CCo.out rfl); have q3 : (CB == CB) = true := by simp
    clear HCb CCo; go_wp2_with fail
    refine (CC.out w30 (HW.out w30 hb30)).mono ?_; rintro e w31 ⟨rfl, hb31⟩; replace hb31 := below_step hb30 hb31; clear a0 a1 c0 c1 hb30; go_wp2_with fail
    refine (CE2.out w31 hb31).mono ?_; rintro e w33 ⟨rfl, hb33⟩; replace hb33 := below_step hb31 hb33; go_wp2_with fail
    refine (scored_calls w33).mono ?_; rintro e w32 ⟨rfl, hb32⟩; go_wp2_with fail
    go_ret
    exact ⟨rfl, below_step HB0.out (HW.out _ (below_step hb33 hb32))⟩
   ·have hne : (WE == 0) = false := by rw [beq_eq_false_iff_ne]; exact hz
    have hcb : CB = false := by rw [HCb.out, decide_eq_false hz]; rfl
    subst hcb; clear HCb CCo hz; have hb31 := hb30; go_wp2_with fail
    refine (CE2.out w30 hb31).mono ?_; rintro e w33 ⟨rfl, hb33⟩; replace hb33 := below_step hb31 hb33; go_wp2_with fail
    refine (scored_calls w33).mono ?_; rintro e w32 ⟨rfl, hb32⟩; go_wp2_with fail
    go_ret
    exact ⟨rfl, below_step HB0.out (HW.out _ (below_step hb33 hb32))⟩
end Go.Proofs.YtfcaokpadodijaaGreat
