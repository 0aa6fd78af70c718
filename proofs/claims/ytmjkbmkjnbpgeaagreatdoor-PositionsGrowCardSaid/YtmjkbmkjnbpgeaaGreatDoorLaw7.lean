/- PositionsGrow: the law's walk. -/
import Derived.Test.YtmjkbmkjnbpgeaaGreatDoorApo
import Derived.Test.YtmjkbmkjnbpgeaaGreatDoorApg
import Derived.Test.YtmjkbmkjnbpgeaaGreatDoorAph
import Derived.Test.YtmjkbmkjnbpgeaaGreatDoorLaw3
namespace Go.Proofs.YtmjkbmkjnbpgeaaGreatDoor
open Go.RowKit

def K_df : ByteArray := ⟨#[100, 102]⟩
def K_gk : ByteArray := ⟨#[103, 107]⟩
theorem places_small : ∀ k ∈ [K_df, K_gk, K_st, K_none], k.size ≤ 1000 := by decide +kernel
theorem leasts_small : ∀ r ∈ ([1, 2, 3, 0, 61] : List Int), -1000 ≤ r ∧ r ≤ 1000 := by decide
/-- What is drawn: players and where they appeared. -/
def Drawn7 (base : Nat) (p a : Value) (w : World) : Prop :=
  ∃ ps ss, Plays w base p ps ∧ ps.length ≤ 5 ∧ (∀ x ∈ ps, SmallP x ∧ NameOk x.name ∧ x.pos.length ≤ 100) ∧ Aps w base a ss ∧ ss.length ≤ 100 ∧ (∀ s ∈ ss, OkS s) ∧ St w base 400
theorem growR_le (ps : List PD) (ss : List SD) (least week : Int) : (growR ps ss least week).1.length ≤ ps.length := by
  unfold growR
  split
  · split
    · exact Nat.zero_le _
    · unfold growAll; rw [growTo_length]; exact Nat.le_refl _
  · exact Nat.zero_le _
theorem inR_le (ps : List PD) (pos : ByteArray) : (inR ps pos).length ≤ ps.length := by
  unfold inR
  split
  · exact thoseL_le _ _
  · exact Nat.zero_le _
theorem whenL_calls (least : Int) (c : Bool) (hc : c = (decide (least < 1) || decide (60 < least))) (w : World) :
    Calls Tryz.prog 51 #[.bool c, .int .i64 1] w fun e w' => e = .returned (.int .i64 (unlessE (betwB least 1 60) 1)) ∧ w = w' := by
  refine (when_calls c 1 w).mono ?_
  rintro e w' ⟨rfl, rfl⟩
  refine ⟨ret_int ?_, rfl⟩
  subst hc
  unfold unlessE betwB
  by_cases h1 : least < 1
  · rw [decide_eq_true h1, decide_eq_false (show ¬ 1 ≤ least by omega)]; rfl
  · by_cases h2 : 60 < least
    · rw [decide_eq_true h2, decide_eq_false (show ¬ least ≤ 60 by omega)]; simp
    · rw [decide_eq_false h1, decide_eq_false h2, decide_eq_true (show 1 ≤ least by omega), decide_eq_true (show least ≤ 60 by omega)]; rfl
theorem strs_nil (w : World) (lo : Nat) : Strs w lo (.slice none 0 0) [] := ⟨by simp, by simp, .inl ⟨rfl, rfl⟩⟩
set_option maxRecDepth 100000 in
set_option maxHeartbeats 16000000 in
theorem law7 (lv : Value) (w : World) (hl : Tape w lv) (hG : Glob w) : Calls Tryz.prog 6 #[lv] w (BoolIs true w) := by
  have hs1 := hl.stm 25
  obtain ⟨la, ln, lc, rfl⟩ := hl.shape
  have HG := Lib.hid hG
  clear hl hG
  go_enter Tryz.func6, Tryz.ntmps6
  go_wp2_with fail
  refine (players_calls w.heap.size 0 _ hs1 (by omega)).mono ?_
  rintro e w2 ⟨vp, ⟨ps, hP, hpl, hpa⟩, rfl, hs2, hg2⟩
  have hb2 : Below w.heap.size w w2 := (below_alloc w _).grown hg2 (by simp) (fun r hr => by cases hr; exact Nat.le_refl _)
  have HA := Lib.hid hpa
  obtain ⟨pa, pc, rfl⟩ := plays_shape hP
  clear hs1 hg2 hpa
  go_wp2_with fail
  refine (appearsOf_calls w.heap.size _ _ _ ps w2 hs2 (by omega) hP).mono ?_
  rintro e w3 ⟨va, ⟨ss, hS, hsl, hss⟩, rfl, hs3, hg3⟩
  have hb3 := hb2.grown hg3 (hb2.size) (fun r hr => by cases hr; exact Nat.le_refl _)
  obtain ⟨cur2, hB2⟩ := st_cells hs2
  have hP3 := hP.row hg3 hB2 (by decide) (by decide)
  have HO := Lib.hid hss
  obtain ⟨sa, sc, rfl⟩ := aps_shape hS
  have hS := hS.mono hb2.size
  clear hs2 hg3 hP hB2 cur2 hb2 hss
  go_wp2_with fail
  refine (flip_calls w.heap.size _ 15 w3 hs3 (by omega) (by omega) (by omega)).mono ?_
  rintro e w4 ⟨v, ⟨b, rfl⟩, rfl, hs4, hg4⟩
  have hb4 := hb3.grown hg4 (hb3.size) (fun r hr => by cases hr; exact Nat.le_refl _)
  obtain ⟨cur3, hB3⟩ := st_cells hs3
  have hP4 := hP3.row hg4 hB3 (by decide) (by decide)
  have hS4 : Aps w4 w.heap.size (.slice sa ss.length sc) ss := Rows.row hS hg4 fun r hr => ⟨cur3, _, _, by cases hr; exact hB3, by decide⟩
  have hd4 : Drawn7 w.heap.size (.slice pa ps.length pc) (.slice sa ss.length sc) w4 := ⟨ps, ss, hP4.mono (by simp), hpl, fun x hx => ⟨(anyP_all HA.out x hx).1, (anyP_all HA.out x hx).2.1, by have := (HA.out x hx).2.2.1; omega⟩, hS4, by omega, HO.out, hs4.mono (by omega)⟩
  have HD4 := Lib.hid hd4
  clear hs3 hg4 hP3 hS hB3 cur3 hb3 hP4 hS4 hd4 HA HO hpl hsl
  go_upto_if 27 with fail
  go_cut [4, 5] from 18 to 122 (fun p a wc => Hid (Drawn7 w.heap.size p a wc) ∧ Below w.heap.size w wc)
  case first =>
    cases b
    · go_wp2_with fail
      go_meet
      case rel => exact ⟨HD4, hb4⟩
    · go_wp2_with fail
      refine (manySpots_calls w.heap.size _ w4 hs4 (by omega)).mono ?_
      rintro e w5 ⟨vp, va, n, ss', rfl, hn, hP5, hS5, hsl5, hss5, hs5, hg5⟩
      have hb5 := hb4.grown hg5 (hb4.size) (fun r hr => by cases hr; exact Nat.le_refl _)
      have hsz := hb4.size
      obtain ⟨pa', pc', hsh⟩ := plays_shape hP5
      obtain ⟨sa', sc', hsh'⟩ := aps_shape hS5
      subst hsh hsh'
      have hd5 : Drawn7 w.heap.size (.slice pa' [manyP n].length pc') (.slice sa' ss'.length sc') w5 := ⟨[manyP n], ss', hP5.mono hsz, by simp, fun x hx => by
        obtain rfl := List.mem_singleton.1 hx
        exact ⟨manyP_small n hn, ann_ok, by show (spotsL n).length ≤ 100; rw [spotsL_length]; omega⟩, Rows.mono hS5 hsz, by omega, hss5, hs5.mono (by omega)⟩
      have HD5 := Lib.hid hd5
      clear hP5 hS5 hss5 hs5 hg5 hs4 hd5
      go_wp2_with fail
      go_meet
      case rel => exact ⟨HD5, hb5⟩
  case rest =>
    obtain ⟨HDc, hbc⟩ := hcut
    clear HD4 hs4 hb4
    obtain ⟨ps, ss, hP, hpl, hpa, hS, hsl, hso, hsc⟩ := HDc.out
    obtain ⟨pa, pc, rfl⟩ := plays_shape hP
    obtain ⟨sa, sc, rfl⟩ := aps_shape hS
    have HA := Lib.hid hpa
    have HO := Lib.hid hso
    clear HDc hpa hso
    go_wp2_with fail
    refine (pick_calls w.heap.size _ wc.heap.size _ [1, 2, 3, 0, 61] _ (hsc.alloc _) (by omega) (ints_new wc [1, 2, 3, 0, 61] (by decide)) hsc.lt (by simp)).mono ?_
    rintro e w5 ⟨v, ⟨least, rfl, hle⟩, rfl, hs5, hg5⟩
    have Hle := Lib.hid (leasts_small _ hle)
    clear hle
    go_wp2_with fail
    refine (aweek_calls w.heap.size _ w5 hs5 (by omega)).mono ?_
    rintro e w6 ⟨v, ⟨week, rfl, hr0, hr61⟩, rfl, hs6, hg6⟩
    go_wp2_with fail
    refine (some_calls w.heap.size _ w6.heap.size _ [K_df, K_gk, K_st, K_none] _ (hs6.alloc _) (by omega) (strs_new w6 [K_df, K_gk, K_st, K_none] (by decide)) hs6.lt (by simp)).mono ?_
    rintro e w8 ⟨v, ⟨pos, rfl, hpo⟩, rfl, hs8, hg8⟩
    have Hpo := Lib.hid (places_small _ hpo)
    have hg58 : wc.grownBy w8 (some w.heap.size) := gb_trans (gb_alloc wc _ _) (gb_trans hg5 (gb_trans hg6 (gb_trans (gb_alloc w6 _ _) hg8)))
    obtain ⟨cur5, hB5⟩ := st_cells hsc
    have hP8 := hP.row hg58 hB5 (by decide) (by decide)
    have hS8 : Aps w8 w.heap.size (.slice sa ss.length sc) ss := Rows.row hS hg58 fun r hr => ⟨cur5, _, _, by cases hr; exact hB5, by decide⟩
    have hb8 := hbc.grown hg58 hbc.size (fun r hr => by cases hr; exact Nat.le_refl _)
    have HF := Lib.hid (show ∀ w', Below w8.heap.size w8 w' → Plays w' _ (.slice pa ps.length pc) ps ∧ Aps w' w.heap.size (.slice sa ss.length sc) ss ∧ Glob w' from fun w' hb => ⟨hP8.below hb, hS8.below hb, (HG.out.below hb8).below hb⟩)
    have HSm := Lib.hid (show ∀ p ∈ ps, SmallP p from fun p hp => (HA.out p hp).1)
    have HB8 := Lib.hid hb8
    have hpn : ps.length ≤ 1000000 := by omega
    have hsn : ss.length ≤ 1000000 := by omega
    have Q1 := Lib.hid (growE_eq ps ss least week)
    have Q2 := Lib.hid (inE_eq ps pos)
    have T1 := Lib.hid (fun h => growR_eq (ps := ps) (ss := ss) (least := least) (week := week) h)
    have U1 := Lib.hid (fun h => growR_err (ps := ps) (ss := ss) (least := least) (week := week) h)
    have T2 := Lib.hid (show inE ps pos = 0 → inR ps pos = thoseL (fun p => hasS p.pos pos) ps from fun h => by unfold inR; rw [if_pos h])
    have U2 := Lib.hid (show inE ps pos ≠ 0 → inR ps pos = [] from fun h => by unfold inR; rw [if_neg h])
    have HL := Lib.hid (show (inR ps pos).length ≤ 1000000 from Nat.le_trans (inR_le _ _) hpn)
    have HL1 := Lib.hid (show (growR ps ss least week).1.length ≤ 1000000 from Nat.le_trans (growR_le _ _ _ _) hpn)
    have HK := Lib.hid (chkAp_eq ps ss)
    have C1 := Lib.hid (fun w' hb => grown_calls w.heap.size _ _ _ ps ss least week w' (HF.out w' hb).1 HSm.out hpn (HF.out w' hb).2.2 (HF.out w' hb).2.1 HO.out hsl (fun p hp => (HA.out p hp).2.2) Hle.out)
    have C2 := Lib.hid (fun w' hb => inX_calls _ _ ps pos w' (HF.out w' hb).1 HSm.out hpn (HF.out w' hb).2.2 (by have := Hpo.out; omega))
    have C4 := Lib.hid (fun w' hb => playersFault_calls _ _ ps w' (HF.out w' hb).1 (fun p hp => ⟨(HA.out p hp).1, (HA.out p hp).2.1⟩) hpn (HF.out w' hb).2.2)
    have C5 := Lib.hid (fun w' hb => appearsFault_calls w.heap.size _ _ _ ps ss w' (HF.out w' hb).1 (HF.out w' hb).2.1 HO.out hsn)
    have C6 := Lib.hid (fun w' hb => grownOf_calls w.heap.size _ _ _ ps ss least week w' (HF.out w' hb).1 (HF.out w' hb).2.1 hsl (fun p hp => (HSm.out p hp).2.2.1))
    have C7 := Lib.hid (fun w' hb => inPosition_calls _ pos _ ps w' (HF.out w' hb).1)
    have C8 := Lib.hid (fun w' => nameFault_calls pos w' (by have := Hpo.out; omega))
    have C14 := Lib.hid (fun w' hb => checkAppears_calls w.heap.size _ _ _ ps ss w' (HF.out w' hb).1 HSm.out hpn (HF.out w' hb).2.2 (HF.out w' hb).2.1 HO.out hsn)
    have C16 := Lib.hid (fun w' hb => listed_calls w' (HF.out w' hb).2.2)
    have hl3 := Hle.out
    clear hsc hs5 hs6 hs8 hg5 hg6 hg8 hg58 hB5 cur5 hP hS hP8 hS8 hb8 hbc hpo Hpo Hle
    rw [HK.out] at C14
    generalize growE ps ss least week = E1 at Q1 T1 U1
    generalize inE ps pos = E2 at Q2 T2 U2 C2
    generalize growR ps ss least week = R1 at T1 U1 C1 HL1
    generalize inR ps pos = R2 at T2 U2 C2 HL
    generalize refGr ps ss least week = O1 at T1 C6
    generalize thoseL (fun p => hasS p.pos pos) ps = O2 at T2 C7
    generalize chkPs ps = X1 at Q1 Q2 HK C4 C14
    generalize refAp ps ss = X2 at Q1 HK C5 C14
    generalize hX5 : firstE [X1, X2] = X5 at HK C14 Q1
    have HX5 := Lib.hid hX5
    clear HK hX5
    obtain ⟨r1, x1⟩ := R1
    have hb8 := Below.refl w8.heap.size w8
    go_wp2_with fail
    refine (C1.out w8 hb8).mono ?_
    rintro e w9 ⟨vg, rfl, hg9, hb9⟩
    obtain ⟨ga, gc, rfl⟩ := plays_shape hg9
    have hb9 := below_step hb8 hb9
    clear hb8 C1
    go_wp2_with fail
    refine (C2.out w9 hb9).mono ?_
    rintro e w10 ⟨vq, hvq, rfl, hb10⟩
    obtain ⟨qa, qc, rfl⟩ := owns_shape hvq
    have hq10 := strs_of_owns hvq HL.out
    have hg10 := hg9.below hb10
    have hb10 := below_step hb9 hb10
    clear hvq hb9 hg9 C2
    go_wp2_with fail
    refine (C4.out w10 hb10).mono ?_
    rintro e w11 ⟨rfl, hb11⟩
    have hq11 := hq10.below hb11
    have hg11 := hg10.below hb11
    have hb11 := below_step hb10 hb11
    clear hq10 hg10 hb10
    go_wp2_with fail
    refine (C5.out w11 hb11).mono ?_
    rintro e w12 ⟨rfl, hb12⟩
    have hq12 := hq11.below hb12
    have hg12 := hg11.below hb12
    have hb12 := below_step hb11 hb12
    clear hq11 hg11 hb11
    go_wp2_with fail
    refine (errs_calls _ 0 2 [X1, X2] _ (by simp) (by exact nums2 _ _ _ _)).mono ?_
    rintro e w13 ⟨rfl, hw13⟩
    rw [HX5.out]
    have hq13 := hq12.below (below_alloc w12 (.cells #[.int .i64 X1, .int .i64 X2] 32))
    have hg13 := hg12.below (below_alloc w12 (.cells #[.int .i64 X1, .int .i64 X2] 32))
    have hb13 := below_step hb12 (below_alloc w12 (.cells #[.int .i64 X1, .int .i64 X2] 32))
    rw [hw13] at hq13 hg13 hb13
    clear hw13 hq12 hg12 hb12
    go_upto_region 10 with fail
    go_cut [14] from 18 to 122 (fun v wc => v = .int .i64 E1 ∧ Below w13.heap.size w13 wc)
    case first =>
      clear hq13 hg13 hb13
      by_cases h1 : least < 1
      · have Hu := Lib.hid (show (true : Bool) = (decide (least < 1) || decide (60 < least)) from by rw [decide_eq_true h1, Bool.true_or])
        go_wp2_with fail
        refine (whenL_calls least true Hu.out w13).mono ?_
        rintro e w' ⟨rfl, rfl⟩
        go_wp2_with fail
        refine (weekFault_calls _ _).mono ?_
        rintro e w' ⟨rfl, rfl⟩
        go_wp2_with fail
        refine (errs_calls _ 0 3 [X5, unlessE (betwB least 1 60) 1, unlessE (betwB week 1 60) 1] _ (by simp) (by exact nums3 _ _ _ _ _)).mono ?_
        rintro e w14 ⟨rfl, rfl⟩
        rw [← Q1.out]
        go_wp2_with fail
        go_meet
        case rel => exact ⟨rfl, below_alloc _ _⟩
      · by_cases h2 : 60 < least
        · have Hu := Lib.hid (show (true : Bool) = (decide (least < 1) || decide (60 < least)) from by rw [decide_eq_true h2, Bool.or_true])
          go_wp2_with fail
          refine (whenL_calls least true Hu.out w13).mono ?_
          rintro e w' ⟨rfl, rfl⟩
          go_wp2_with fail
          refine (weekFault_calls _ _).mono ?_
          rintro e w' ⟨rfl, rfl⟩
          go_wp2_with fail
          refine (errs_calls _ 0 3 [X5, unlessE (betwB least 1 60) 1, unlessE (betwB week 1 60) 1] _ (by simp) (by exact nums3 _ _ _ _ _)).mono ?_
          rintro e w14 ⟨rfl, rfl⟩
          rw [← Q1.out]
          go_wp2_with fail
          go_meet
          case rel => exact ⟨rfl, below_alloc _ _⟩
        · have Hu := Lib.hid (show (false : Bool) = (decide (least < 1) || decide (60 < least)) from by rw [decide_eq_false h1, decide_eq_false h2]; rfl)
          go_wp2_with fail
          refine (whenL_calls least false Hu.out w13).mono ?_
          rintro e w' ⟨rfl, rfl⟩
          go_wp2_with fail
          refine (weekFault_calls _ _).mono ?_
          rintro e w' ⟨rfl, rfl⟩
          go_wp2_with fail
          refine (errs_calls _ 0 3 [X5, unlessE (betwB least 1 60) 1, unlessE (betwB week 1 60) 1] _ (by simp) (by exact nums3 _ _ _ _ _)).mono ?_
          rintro e w14 ⟨rfl, rfl⟩
          rw [← Q1.out]
          go_wp2_with fail
          go_meet
          case rel => exact ⟨rfl, below_alloc _ _⟩
    case rest =>
      obtain ⟨rfl, hb14⟩ := hcut
      have hq14 := hq13.below hb14
      have hg14 := hg13.below hb14
      have hb14 := below_step hb13 hb14
      clear hq13 hg13 hb13
      go_wp2_with fail
      refine (C4.out _ hb14).mono ?_
      rintro e w15 ⟨rfl, hb15⟩
      have hq15 := hq14.below hb15
      have hg15 := hg14.below hb15
      have hb15 := below_step hb14 hb15
      clear hq14 hg14 hb14
      go_wp2_with fail
      refine (C8.out w15).mono ?_
      rintro e w' ⟨rfl, rfl⟩
      go_wp2_with fail
      refine (errs_calls _ 0 2 [X1, unlessE (keyB pos) 5] _ (by simp) (by exact nums2 _ _ _ _)).mono ?_
      rintro e w16 ⟨rfl, hw16⟩
      rw [← Q2.out]
      have hq16 := hq15.below (below_alloc w15 (.cells #[.int .i64 X1, .int .i64 (unlessE (keyB pos) 5)] 32))
      have hg16 := hg15.below (below_alloc w15 (.cells #[.int .i64 X1, .int .i64 (unlessE (keyB pos) 5)] 32))
      have hb16 := below_step hb15 (below_alloc w15 (.cells #[.int .i64 X1, .int .i64 (unlessE (keyB pos) 5)] 32))
      rw [hw16] at hq16 hg16 hb16
      clear hw16 hq15 hg15 hb15
      go_upto_if 81 with fail
      go_cut [14, 16] from 18 to 122 (fun x v wc => x = .int .i64 x1 ∧ (∃ a c, v = .slice a r1.length c) ∧ Plays wc w8.heap.size v r1 ∧ Below w16.heap.size w16 wc)
      case first =>
        by_cases hz1 : E1 = 0
        · have e1 : (E1 == 0) = true := by simp [hz1]
          have HV1 := Lib.hid (T1.out hz1)
          clear hz1 hq16 hg16
          rw [← HV1.out] at C6
          go_wp2_with fail
          refine (C6.out w16 hb16).mono ?_
          rintro e w17 ⟨vw, rfl, hv17, hb17⟩
          obtain ⟨wa, wk, rfl⟩ := plays_shape hv17
          have hs16 := hb16.size
          go_wp2_with fail
          go_meet
          case rel => exact ⟨rfl, ⟨_, _, rfl⟩, hv17.mono hs16, hb17⟩
        · have e1 : (E1 == 0) = false := by simp [hz1]
          have HV1 := U1.out hz1
          have hr1 : r1 = [] := congrArg Prod.fst HV1
          have hx1 : x1 = E1 := congrArg Prod.snd HV1
          subst hr1 hx1
          clear hz1 hq16 hg16 HV1
          go_wp2_with fail
          go_meet
          case rel => exact ⟨rfl, ⟨_, _, rfl⟩, plays_nil _ _, Below.refl _ _⟩
      case rest =>
        obtain ⟨rfl, ⟨wa, wk, rfl⟩, hv17, hb17⟩ := hcut
        have hq17 := hq16.below hb17
        have hg17 := hg16.below hb17
        have hb17 := below_step hb16 hb17
        clear hq16 hg16 hb16 T1 U1 C6
        go_upto_if 91 with fail
        go_cut [17] from 18 to 122 (fun v wd => (∃ a c, v = .slice a R2.length c) ∧ Strs wd w8.heap.size v R2 ∧ Below wc.heap.size wc wd)
        case first =>
          by_cases hz2 : E2 = 0
          · have e2 : (E2 == 0) = true := by simp [hz2]
            have HV2 := Lib.hid (T2.out hz2)
            clear hz2 hq17 hg17 hv17
            rw [← HV2.out] at C7
            go_wp2_with fail
            refine (C7.out _ hb17).mono ?_
            rintro e w18 ⟨vw, hvw, rfl, hb18⟩
            obtain ⟨ya, yc, rfl⟩ := owns_shape hvw
            have hy18 := (strs_of_owns hvw HL.out).mono hb17.size
            clear hvw
            go_wp2_with fail
            go_meet
            case rel => exact ⟨⟨_, _, rfl⟩, hy18, hb18⟩
          · have e2 : (E2 == 0) = false := by simp [hz2]
            have hr2 : R2 = [] := U2.out hz2
            subst hr2
            clear hz2 hq17 hg17 hv17
            go_wp2_with fail
            go_meet
            case rel => exact ⟨⟨_, _, rfl⟩, strs_nil _ _, Below.refl _ _⟩
        case rest =>
          obtain ⟨⟨ya, yc, rfl⟩, hy18, hb18⟩ := hcut
          have hq18 := hq17.below hb18
          have hg18 := hg17.below hb18
          have hv18 := hv17.below hb18
          have hb18 := below_step hb17 hb18
          clear hq17 hg17 hv17 hb17 T2 U2 C7
          go_wp2_with fail
          refine (C14.out _ hb18).mono ?_
          rintro e w19 ⟨rfl, hb19⟩
          have hq19 := hq18.below hb19
          have hg19 := hg18.below hb19
          have hv19 := hv18.below hb19
          have hy19 := hy18.below hb19
          have hb19 := below_step hb18 hb19
          clear hq18 hg18 hv18 hy18 hb18
          go_wp2_with fail
          refine (equalPs_calls _ _ _ _ r1 w19 hg19 hv19).mono ?_
          rintro e w20 ⟨rfl, hb20⟩
          have hq20 := hq19.below hb20
          have hy20 := hy19.below hb20
          have hb20 := below_step hb19 hb20
          clear hq19 hg19 hv19 hy19 hb19
          go_wp2_with fail
          refine (equal_calls _ _ _ _ R2 R2 w20 hq20 hy20 HL.out HL.out).mono ?_
          rintro e w21 ⟨rfl, hb21⟩
          rw [decide_eq_true rfl]
          have hb21 := below_step hb20 hb21
          clear hq20 hy20 hb20
          go_wp2_with fail
          refine (C16.out w21 hb21).mono ?_
          rintro e w22 ⟨rfl, hb22⟩
          go_wp2_with fail
          go_ret
          exact ⟨rfl, below_step HB8.out (below_step hb21 hb22)⟩
end Go.Proofs.YtmjkbmkjnbpgeaaGreatDoor
