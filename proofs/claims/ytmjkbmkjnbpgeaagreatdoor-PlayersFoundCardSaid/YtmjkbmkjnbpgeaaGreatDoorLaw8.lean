/- PlayersFound: the law's walk. -/
import Derived.Test.YtmjkbmkjnbpgeaaGreatDoorTxl
import Derived.Test.YtmjkbmkjnbpgeaaGreatDoorApg
namespace Go.Proofs.YtmjkbmkjnbpgeaaGreatDoor
open Go.RowKit

theorem strs_nil8 (w : World) (lo : Nat) : Strs w lo (.slice none 0 0) [] := ⟨by simp, by simp, .inl ⟨rfl, rfl⟩⟩
def mtS : ByteArray := ⟨#[]⟩
set_option maxRecDepth 100000 in
set_option maxHeartbeats 16000000 in
theorem law8 (lv : Value) (w : World) (hl : Tape w lv) (hG : Glob w) : Calls Tryz.prog 7 #[lv] w (BoolIs true w) := by
  have hs1 := hl.stm 25
  obtain ⟨la, ln, lc, rfl⟩ := hl.shape
  have HG := Lib.hid hG
  clear hl hG
  go_enter Tryz.func7, Tryz.ntmps7
  go_wp2_with fail
  refine (players_calls w.heap.size 0 _ hs1 (by omega)).mono ?_
  rintro e w2 ⟨vp, ⟨ps, hP, hpl, hpa⟩, rfl, hs2, hg2⟩
  have hb2 : Below w.heap.size w w2 := (below_alloc w _).grown hg2 (by simp) (fun r hr => by cases hr; exact Nat.le_refl _)
  have HA := Lib.hid hpa
  obtain ⟨pa, pc, rfl⟩ := plays_shape hP
  clear hs1 hg2 hpa
  go_wp2_with fail
  refine (some_calls w.heap.size _ w2.heap.size _ queries _ (hs2.alloc _) (by omega) (strs_new w2 queries (by decide)) hs2.lt (by decide)).mono ?_
  rintro e w3 ⟨v, ⟨q, rfl, hq⟩, rfl, hs3, hg3⟩
  have Hq := Lib.hid hq
  have hg23 := gb_trans (gb_alloc w2 (.cells (queries.map Value.string).toArray 9) (some w.heap.size)) hg3
  clear hq hg3
  go_wp2_with fail
  refine (playerText_calls w.heap.size _ w3 hs3 (by omega)).mono ?_
  rintro e w4 ⟨v, ⟨u, rfl, hu⟩, rfl, hs4, hg4⟩
  have hg24 := gb_trans hg23 hg4
  have hb4 := hb2.grown hg24 hb2.size (fun r hr => by cases hr; exact Nat.le_refl _)
  obtain ⟨cur2, hB2⟩ := st_cells hs2
  have hP4 := hP.row hg24 hB2 (by decide) (by decide)
  have HF := Lib.hid (show ∀ w', Below w4.heap.size w4 w' → Plays w' _ (.slice pa ps.length pc) ps ∧ Glob w' from fun w' hb => ⟨hP4.below hb, (HG.out.below hb4).below hb⟩)
  have HB4 := Lib.hid hb4
  have hpn : ps.length ≤ 1000000 := by omega
  have HSm := Lib.hid (show ∀ p ∈ ps, SmallP p from fun p hp => (anyP_all HA.out p hp).1)
  have HS5 := Lib.hid (show ∀ p ∈ ps, SmallP p ∧ p.pos.length ≤ 5 from fun p hp => ⟨HSm.out p hp, (HA.out p hp).2.2.1⟩)
  have Hok := Lib.hid (queries_ok q Hq.out)
  have T1 := Lib.hid (fun h => findR_eq (ps := ps) (q := q) HA.out Hq.out h)
  have U1 := Lib.hid (fun h => findR_ne (ps := ps) (q := q) h)
  have T2 := Lib.hid (fun h => textR_eq (ps := ps) hpl HS5.out h)
  have U2 := Lib.hid (show chkPs ps ≠ 0 → textR ps = mtS from fun h => textR_ne h)
  have HE := Lib.hid (textE_eq (ps := ps) hpl HS5.out)
  have HL := Lib.hid (show (findR ps q).length ≤ 1000000 from Nat.le_trans (findR_le _ _) hpn)
  have C1 := Lib.hid (fun w' hb => findL_calls _ _ ps q w' (HF.out w' hb).1 (fun p hp => ⟨HSm.out p hp, (anyP_all HA.out p hp).2.2⟩) hpn (HF.out w' hb).2 Hok.out.1)
  have C2 := Lib.hid (fun w' hb => text_calls _ _ ps w' (HF.out w' hb).1 HSm.out (by omega) (HF.out w' hb).2)
  have C3 := Lib.hid (fun w' hb => playersFault_calls _ _ ps w' (HF.out w' hb).1 (fun p hp => ⟨(anyP_all HA.out p hp).1, (anyP_all HA.out p hp).2.1⟩) hpn (HF.out w' hb).2)
  have C4 := Lib.hid (fun w' hb => findFault_calls q w' (by have := Hok.out.2.1; omega) (HF.out w' hb).2)
  have C5 := Lib.hid (fun w' hb => foundBy_calls _ _ ps q w' (HF.out w' hb).1 (fun p hp => names_900 _ (HA.out p hp).2.1) Hok.out.2.1 Hok.out.2.2 (HF.out w' hb).2)
  have C6 := Lib.hid (fun w' hb => playerLines_calls _ _ ps w' (HF.out w' hb).1 HSm.out (by omega))
  have C7 := Lib.hid (fun w' hb => read_calls u w' (by omega) (HF.out w' hb).2)
  have C8 := Lib.hid (fun w' hb => playersRead_calls u w' (by omega) (HF.out w' hb).2)
  have C9 := Lib.hid (fun w' hb => listed_calls w' (HF.out w' hb).2)
  have HX5 := Lib.hid (show findE ps q = firstE [chkPs ps, unlessE (titleB q) 3] from rfl)
  rw [HE.out] at C2
  clear hs2 hs3 hs4 hg23 hg4 hg24 hb2 hb4 hP hP4 hB2 cur2 HE Hq Hok
  generalize findE ps q = E1 at C1 T1 U1 HX5
  generalize findR ps q = R1 at C1 T1 U1 HL
  generalize thoseL (fun p => foundB q p.name) ps = O1 at T1 C5
  generalize chkPs ps = X1 at C2 C3 T2 U2 HX5
  generalize unlessE (titleB q) 3 = X2 at C4 HX5
  generalize textR ps = S1 at C2 T2 U2
  generalize textS ps = S2 at C6 T2
  generalize readR u = R2 at C7 C8
  have Hmt := Lib.hid (show mtS = (⟨#[]⟩ : ByteArray) from rfl)
  generalize mtS = mt at U2 Hmt
  have hb4 := Below.refl w4.heap.size w4
  go_wp2_with fail
  refine (C1.out w4 hb4).mono ?_
  rintro e w5 ⟨vq, hvq, rfl, hb5⟩
  obtain ⟨qa, qc, rfl⟩ := owns_shape hvq
  have hq5 := strs_of_owns hvq HL.out
  clear hvq C1 hb4
  go_wp2_with fail
  refine (C2.out w5 hb5).mono ?_
  rintro e w6 ⟨rfl, hb6⟩
  have hq6 := hq5.below hb6
  have hb6 := below_step hb5 hb6
  clear hq5 hb5 C2
  go_wp2_with fail
  refine (C3.out w6 hb6).mono ?_
  rintro e w7 ⟨rfl, hb7⟩
  have hq7 := hq6.below hb7
  have hb7 := below_step hb6 hb7
  clear hq6 hb6 C3
  go_wp2_with fail
  refine (C4.out w7 hb7).mono ?_
  rintro e w8 ⟨rfl, hb8⟩
  have hq8 := hq7.below hb8
  have hb8 := below_step hb7 hb8
  clear hq7 hb7 C4
  go_wp2_with fail
  refine (errs_calls _ 0 2 [X1, X2] _ (by simp) (by exact nums2 _ _ _ _)).mono ?_
  rintro e w9 ⟨rfl, hw9⟩
  rw [← HX5.out]
  have hq9 := hq8.below (below_alloc w8 (.cells #[.int .i64 X1, .int .i64 X2] 32))
  have hb9 := below_step hb8 (below_alloc w8 (.cells #[.int .i64 X1, .int .i64 X2] 32))
  rw [hw9] at hq9 hb9
  clear hw9 hq8 hb8 HX5
  go_upto_if 50 with fail
  go_cut [13] from 21 to 105 (fun v wc => (∃ a c, v = .slice a R1.length c) ∧ Strs wc w4.heap.size v R1 ∧ Below w9.heap.size w9 wc)
  case first =>
    by_cases hz1 : E1 = 0
    · have e1 : (E1 == 0) = true := by simp [hz1]
      have HV1 := Lib.hid (T1.out hz1)
      clear hz1 hq9
      rw [← HV1.out] at C5
      go_wp2_with fail
      refine (C5.out w9 hb9).mono ?_
      rintro e w10 ⟨vw, hvw, rfl, hb10⟩
      obtain ⟨ya, yc, rfl⟩ := owns_shape hvw
      have hy10 := (strs_of_owns hvw HL.out).mono hb9.size
      clear hvw
      go_wp2_with fail
      go_meet
      case rel => exact ⟨⟨_, _, rfl⟩, hy10, hb10⟩
    · have e1 : (E1 == 0) = false := by simp [hz1]
      have hr1 : R1 = [] := U1.out hz1
      subst hr1
      clear hz1 hq9
      go_wp2_with fail
      go_meet
      case rel => exact ⟨⟨_, _, rfl⟩, strs_nil8 _ _, Below.refl _ _⟩
  case rest =>
    obtain ⟨⟨ya, yc, rfl⟩, hy10, hb10⟩ := hcut
    have hq10 := hq9.below hb10
    have hb10 := below_step hb9 hb10
    clear hq9 hb9 T1 U1 C5
    go_upto_if 55 with fail
    go_cut [14] from 21 to 105 (fun v wd => v = .string S1 ∧ Below wc.heap.size wc wd)
    case first =>
      by_cases hz2 : X1 = 0
      · have e2 : (X1 == 0) = true := by simp [hz2]
        have HV2 := Lib.hid (T2.out hz2)
        clear hz2 hq10 hy10
        rw [← HV2.out] at C6
        go_wp2_with fail
        refine (C6.out _ hb10).mono ?_
        rintro e w11 ⟨rfl, hb11⟩
        go_wp2_with fail
        go_meet
        case rel => exact ⟨rfl, hb11⟩
      · have e2 : (X1 == 0) = false := by simp [hz2]
        have hr2 : S1 = mt := U2.out hz2
        clear hz2 hq10 hy10
        go_wp2_with fail
        go_meet
        case rel => exact ⟨by rw [hr2, Hmt.out], Below.refl _ _⟩
    case rest =>
      obtain ⟨rfl, hb11⟩ := hcut
      have hq11 := hq10.below hb11
      have hy11 := hy10.below hb11
      have hb11 := below_step hb10 hb11
      clear hq10 hy10 hb10 T2 U2 C6
      go_wp2_with fail
      refine (C7.out _ hb11).mono ?_
      rintro e w12 ⟨va, rfl, ha12, hb12⟩
      obtain ⟨aa, ac, rfl⟩ := plays_shape ha12
      have hq12 := hq11.below hb12
      have hy12 := hy11.below hb12
      have hb12 := below_step hb11 hb12
      clear hq11 hy11 hb11
      go_wp2_with fail
      refine (C8.out _ hb12).mono ?_
      rintro e w13 ⟨vb, rfl, hc13, hb13⟩
      obtain ⟨ba, bc, rfl⟩ := plays_shape hc13
      have ha13 := ha12.below hb13
      have hq13 := hq12.below hb13
      have hy13 := hy12.below hb13
      have hb13 := below_step hb12 hb13
      clear hq12 hy12 hb12 ha12
      go_wp2_with fail
      refine (equal_calls _ _ _ _ R1 R1 w13 hq13 hy13 HL.out HL.out).mono ?_
      rintro e w14 ⟨rfl, hb14⟩
      rw [decide_eq_true rfl]
      have ha14 := ha13.below hb14
      have hc14 := hc13.below hb14
      have hb14 := below_step hb13 hb14
      clear hq13 hy13 hb13 ha13 hc13
      go_wp2_with fail
      refine (equalPs_calls _ _ _ _ R2.1 w14 ha14 hc14).mono ?_
      rintro e w15 ⟨rfl, hb15⟩
      have hb15 := below_step hb14 hb15
      clear ha14 hc14 hb14
      go_wp2_with fail
      refine (C9.out w15 hb15).mono ?_
      rintro e w16 ⟨rfl, hb16⟩
      go_wp2_with fail
      go_ret
      exact ⟨rfl, below_step HB4.out (below_step hb15 hb16)⟩
end Go.Proofs.YtmjkbmkjnbpgeaaGreatDoor
