/- PlayersInClubs: the law's walk. -/
import Derived.Test.YtmjkbmkjnbpgeaaGreatDoorBk
namespace Go.Proofs.YtmjkbmkjnbpgeaaGreatDoor
open Go.RowKit

/-- The tape as the law is handed it. -/
def Tape (w : World) (lv : Value) : Prop := (∃ a c, lv = .slice a 0 c) ∨ ∃ b off len cap, lv = .slice (some ⟨b, off, none⟩) len cap ∧ b < w.heap.size ∧ len ≤ 140737488355328 ∧ ∀ j, j < len → ∃ x : Int, w.cell? ⟨b, off + j, none⟩ = some (.int .i64 x)
theorem Tape.stm {w : World} {lv : Value} (h : Tape w lv) (T : Nat) : Stm (w.alloc (.cells #[lv, .int .i64 0] T)) T w.heap.size 0 := by
  refine ⟨lv, 0, heap_alloc_new w _, Nat.le_refl _, ?_⟩
  rcases h with h | ⟨b, off, len, cap, e, hb, hl, hx⟩
  · exact .inl h
  · exact .inr ⟨b, off, len, cap, e, hb, hl, fun j hj => by obtain ⟨x, hx⟩ := hx j hj; exact ⟨x, below_cell (below_alloc w _) hx⟩⟩
theorem Tape.shape {w : World} {lv : Value} (h : Tape w lv) : ∃ a n c, lv = .slice a n c := by
  rcases h with ⟨a, c, h⟩ | ⟨b, off, len, cap, e, _⟩
  · exact ⟨_, _, _, h⟩
  · exact ⟨_, _, _, e⟩
def C_blue' : ByteArray := ⟨#[98, 108, 117, 101]⟩
def C_grey' : ByteArray := ⟨#[103, 114, 101, 121]⟩
/-- What holds of the players drawn. -/
theorem anyP_all {ps : List PD} (h : ∀ p ∈ ps, AnyP p) : ∀ p ∈ ps, SmallP p ∧ NameOk p.name ∧ WordsOk p.name := by
  intro p hp
  obtain ⟨h1, h2, h3, h4⟩ := h p hp
  refine ⟨⟨?_, names_small _ h2, by omega, fun k hk => ?_⟩, names_ok _ h2, words_ok _ h2⟩
  · have : ∀ k ∈ fiveKeys ++ [K_none, K_A], k.size ≤ 1000 := by decide +kernel
    exact this _ h1
  · have : ∀ k ∈ spotKeys ++ [K_a, K_none, K_zz], k.size ≤ 1000 := by decide +kernel
    exact this _ (h4 k hk)
theorem thoseL_congr {f g : PD → Bool} (ps : List PD) (h : ∀ p, f p = g p) : thoseL f ps = thoseL g ps := by
  rw [show f = g from funext h]
theorem club_tail {ps : List PD} {ss : List SD} {who : ByteArray} {m : Nat} (h : clubE ps ss who m = 0) : clubR ps ss who m = clubN ss who m := by
  unfold clubR; rw [if_pos h]
  exact clubB_eq (firstE_all h (chkSt ps ss) (by simp)) who m
theorem squad_tail {ps : List PD} {ss : List SD} {club : ByteArray} {m : Nat} (h : squadE ps ss club m = 0) : squadR ps ss club m = thoseL (fun p => beqS (clubN ss p.key m) club) ps := by
  unfold squadR; rw [if_pos h]
  exact thoseL_congr ps fun p => by rw [clubB_eq (firstE_all h (chkSt ps ss) (by simp)) p.key m]
theorem whos_small : ∀ k ∈ [K_ann, K_bea, K_cid, K_zed], k.size ≤ 1000 := by decide +kernel
theorem clubs_small : ∀ k ∈ [C_red, C_blue', C_grey', K_none], k.size ≤ 1000 := by decide +kernel

set_option maxRecDepth 100000 in
set_option maxHeartbeats 8000000 in
theorem law3 (lv : Value) (w : World) (hl : Tape w lv) (hG : Glob w) : Calls Tryz.prog 3 #[lv] w (BoolIs true w) := by
  have hs1 := hl.stm 25
  obtain ⟨la, ln, lc, rfl⟩ := hl.shape
  have HG := Lib.hid hG
  clear hl hG
  go_enter Tryz.func3, Tryz.ntmps3
  go_wp2_with fail
  refine (players_calls w.heap.size 0 _ hs1 (by omega)).mono ?_
  rintro e w2 ⟨vp, ⟨ps, hP, hpl, hpa⟩, rfl, hs2, hg2⟩
  have hb2 : Below w.heap.size w w2 := (below_alloc w _).grown hg2 (by simp) (fun r hr => by cases hr; exact Nat.le_refl _)
  have HA := Lib.hid (anyP_all hpa)
  obtain ⟨pa, pc, rfl⟩ := plays_shape hP
  clear hs1 hg2 hpa
  go_wp2_with fail
  refine (stintsOf_calls w.heap.size _ _ _ ps w2 hs2 (by omega) hP).mono ?_
  rintro e w3 ⟨vs, ⟨ss, hS, hsl, hss⟩, rfl, hs3, hg3⟩
  have hb3 := hb2.grown hg3 (hb2.size) (fun r hr => by cases hr; exact Nat.le_refl _)
  obtain ⟨cur2, hB2⟩ := st_cells hs2
  have hP3 := hP.row hg3 hB2 (by decide) (by decide)
  have HO := Lib.hid hss
  obtain ⟨sa, sc, rfl⟩ := sts_shape hS
  clear hs2 hg3 hP hB2 cur2 hb2 hss
  go_wp2_with fail
  refine (some_calls w.heap.size _ w3.heap.size _ [K_ann, K_bea, K_cid, K_zed] _ (hs3.alloc _) (by omega) (strs_new w3 [K_ann, K_bea, K_cid, K_zed] (by decide)) hs3.lt (by simp)).mono ?_
  rintro e w4 ⟨v, ⟨who, rfl, hwho⟩, rfl, hs4, hg4⟩
  have Hwho := Lib.hid (whos_small _ hwho)
  clear hwho
  go_wp2_with fail
  refine (some_calls w.heap.size _ w4.heap.size _ [C_red, C_blue', C_grey', K_none] _ (hs4.alloc _) (by omega) (strs_new w4 [C_red, C_blue', C_grey', K_none] (by decide)) hs4.lt (by simp)).mono ?_
  rintro e w5 ⟨v, ⟨club, rfl, hclub⟩, rfl, hs5, hg5⟩
  have Hclub := Lib.hid (clubs_small _ hclub)
  clear hclub
  go_wp2_with fail
  refine (aweek_calls w.heap.size _ w5 hs5 (by omega)).mono ?_
  rintro e w6 ⟨v, ⟨r, rfl, hr0, hr61⟩, rfl, hs6, hg6⟩
  obtain ⟨m, rfl⟩ : ∃ m : Nat, r = (m : Int) := ⟨r.toNat, by omega⟩
  have hg36 : w3.grownBy w6 (some w.heap.size) := gb_trans (gb_alloc w3 _ _) (gb_trans hg4 (gb_trans (gb_alloc w4 _ _) (gb_trans hg5 hg6)))
  obtain ⟨cur3, hB3⟩ := st_cells hs3
  have hP6 := hP3.row hg36 hB3 (by decide) (by decide)
  have hS6 : Sts w6 w2.heap.size (.slice sa ss.length sc) ss := Rows.row hS hg36 fun r hr => ⟨cur3, _, _, by cases hr; exact hB3, by decide⟩
  have hb6 := hb3.grown hg36 hb3.size (fun r hr => by cases hr; exact Nat.le_refl _)
  have HF := Lib.hid (show ∀ w', Below w6.heap.size w6 w' → Plays w' _ (.slice pa ps.length pc) ps ∧ Sts w' w2.heap.size (.slice sa ss.length sc) ss ∧ Glob w' from fun w' hb => ⟨hP6.below hb, hS6.below hb, (HG.out.below hb6).below hb⟩)
  have HSm := Lib.hid (show ∀ p ∈ ps, SmallP p from fun p hp => (HA.out p hp).1)
  have HB6 := Lib.hid hb6
  have hpn : ps.length ≤ 1000000 := by omega
  have hsn : ss.length ≤ 1000000 := by omega
  have hm : m ≤ 1000 := by omega
  have HE := Lib.hid (clubE_eq ps ss who m)
  have HQ := Lib.hid (squadE_eq ps ss club m)
  have HT := Lib.hid (fun h => club_tail (ps := ps) (ss := ss) (who := who) (m := m) h)
  have HU := Lib.hid (fun h => squad_tail (ps := ps) (ss := ss) (club := club) (m := m) h)
  have HT0 := Lib.hid (show clubE ps ss who m ≠ 0 → clubR ps ss who m = ⟨#[]⟩ from fun h => by unfold clubR; rw [if_neg h])
  have HU0 := Lib.hid (show squadE ps ss club m ≠ 0 → squadR ps ss club m = [] from fun h => by unfold squadR; rw [if_neg h])
  have HL := Lib.hid (show (squadR ps ss club m).length ≤ 1000000 by
    unfold squadR; split
    · exact Nat.le_trans (thoseL_le _ _) hpn
    · simp)
  have HK := Lib.hid (chkSt_eq ps ss)
  have C1 := Lib.hid (fun w' hb => clubInX_calls w2.heap.size _ _ _ ps ss who m w' (HF.out w' hb).1 HSm.out hpn (HF.out w' hb).2.2 (HF.out w' hb).2.1 HO.out hsn)
  have C2 := Lib.hid (fun w' hb => squad_calls w2.heap.size _ _ _ ps ss club m w' (HF.out w' hb).1 HSm.out hpn (HF.out w' hb).2.2 (HF.out w' hb).2.1 HO.out hsn (Nat.le_trans Hclub.out (by omega)))
  have C3 := Lib.hid (fun w' hb => playersFault_calls _ _ ps w' (HF.out w' hb).1 (fun p hp => ⟨(HA.out p hp).1, (HA.out p hp).2.1⟩) hpn (HF.out w' hb).2.2)
  have C4 := Lib.hid (fun w' hb => stintsFault_calls w2.heap.size _ _ _ ps ss w' (HF.out w' hb).1 (HF.out w' hb).2.1 HO.out hsn)
  have C5 := Lib.hid (fun w' hb => playerFault_calls _ who _ ps w' (HF.out w' hb).1)
  have C6 := Lib.hid (fun w' hb => clubOf_calls w2.heap.size who m _ ss w' (HF.out w' hb).2.1 hsn hm)
  have C7 := Lib.hid (fun w' hb => squadOf_calls _ w2.heap.size club m _ _ ps ss w' (HF.out w' hb).1 (HF.out w' hb).2.1 hsn hm)
  have C8 := Lib.hid (fun w' hb => checkPlayers_calls _ _ ps w' (HF.out w' hb).1 HSm.out hpn (HF.out w' hb).2.2)
  have C9 := Lib.hid (fun w' hb => checkStints_calls w2.heap.size _ _ _ ps ss w' (HF.out w' hb).1 HSm.out hpn (HF.out w' hb).2.2 (HF.out w' hb).2.1 HO.out hsn)
  have C10 := Lib.hid (fun w' hb => listed_calls w' (HF.out w' hb).2.2)
  clear hs3 hs4 hs5 hs6 hg4 hg5 hg6 hg36 hB3 cur3 hP3 hP6 hS hS6 hb3 hb6
  generalize hE1 : clubE ps ss who m = E1 at HE HT HT0 C1
  generalize hE2 : squadE ps ss club m = E2 at HQ HU HU0 C2
  generalize hR1 : clubR ps ss who m = R1 at HT HT0 C1
  generalize hR2 : squadR ps ss club m = R2 at HU HU0 C2 HL
  generalize hX1 : chkPs ps = X1 at HE HQ HK C3 C8
  generalize hX2 : refSt ps ss = X2 at HE HQ HK C4
  rw [HK.out] at C9
  generalize hFF : firstE [X1, X2] = FF at HE HQ HK C9
  have HFF := Lib.hid hFF
  clear hE1 hE2 hR1 hR2 hX1 hX2 hFF
  go_wp2_with fail
  refine (C1.out w6 (Below.refl _ _)).mono ?_
  rintro e w7 ⟨rfl, hb7⟩
  go_wp2_with fail
  refine (C2.out w7 hb7).mono ?_
  rintro e w8 ⟨vq, hvq, rfl, hb8⟩
  obtain ⟨qa, qc, rfl⟩ := owns_shape hvq
  have hq8 := strs_of_owns hvq HL.out
  have hb8 := below_step hb7 hb8
  clear hvq hb7
  go_wp2_with fail
  refine (C3.out w8 hb8).mono ?_
  rintro e w9 ⟨rfl, hb9⟩
  have hq9 := hq8.below hb9
  have hb9 := below_step hb8 hb9
  clear hq8 hb8
  go_wp2_with fail
  refine (C4.out w9 hb9).mono ?_
  rintro e w10 ⟨rfl, hb10⟩
  have hq10 := hq9.below hb10
  have hb10 := below_step hb9 hb10
  clear hq9 hb9
  go_wp2_with fail
  refine (errs_calls _ 0 2 [X1, X2] _ (by simp) (by exact nums2 _ _ _ _)).mono ?_
  rintro e w11 ⟨rfl, hw11⟩
  rw [HFF.out]
  have hq11 := hq10.below (below_alloc w10 (.cells #[.int .i64 X1, .int .i64 X2] 32))
  have hb11 := below_step hb10 (below_alloc w10 (.cells #[.int .i64 X1, .int .i64 X2] 32))
  rw [hw11] at hq11 hb11
  clear hw11 hq10 hb10
  go_wp2_with fail
  refine (C5.out w11 hb11).mono ?_
  rintro e w12 ⟨rfl, hb12⟩
  have hq12 := hq11.below hb12
  have hb12 := below_step hb11 hb12
  clear hq11 hb11
  go_wp2_with fail
  refine (weekFault_calls _ _).mono ?_
  rintro e w' ⟨rfl, rfl⟩
  go_wp2_with fail
  refine (errs_calls _ 0 3 [FF, unlessE (hasP ps who) 8, unlessE (betwB m 1 60) 1] _ (by simp) (by exact nums3 _ _ _ _ _)).mono ?_
  rintro e w13 ⟨rfl, hw13⟩
  rw [← HE.out]
  have hq13 := hq12.below (below_alloc w12 (.cells #[.int .i64 FF, .int .i64 (unlessE (hasP ps who) 8), .int .i64 (unlessE (betwB m 1 60) 1)] 32))
  have hb13 := below_step hb12 (below_alloc w12 (.cells #[.int .i64 FF, .int .i64 (unlessE (hasP ps who) 8), .int .i64 (unlessE (betwB m 1 60) 1)] 32))
  rw [hw13] at hq13 hb13
  clear hw13 hq12 hb12
  go_wp2_with fail
  refine (nameFault_calls club _ (Nat.le_trans Hclub.out (by omega))).mono ?_
  rintro e w' ⟨rfl, rfl⟩
  go_wp2_with fail
  refine (weekFault_calls _ _).mono ?_
  rintro e w' ⟨rfl, rfl⟩
  go_wp2_with fail
  refine (errs_calls _ 0 3 [FF, unlessE (keyB club) 5, unlessE (betwB m 1 60) 1] _ (by simp) (by exact nums3 _ _ _ _ _)).mono ?_
  rintro e w14 ⟨rfl, hw14⟩
  rw [← HQ.out]
  have hq14 := hq13.below (below_alloc w13 (.cells #[.int .i64 FF, .int .i64 (unlessE (keyB club) 5), .int .i64 (unlessE (betwB m 1 60) 1)] 32))
  have hb14 := below_step hb13 (below_alloc w13 (.cells #[.int .i64 FF, .int .i64 (unlessE (keyB club) 5), .int .i64 (unlessE (betwB m 1 60) 1)] 32))
  rw [hw14] at hq14 hb14
  clear hw14 hq13 hb13
  by_cases hz1 : E1 = 0
  · have e1 : (E1 == 0) = true := by simp [hz1]
    have HR := Lib.hid (HT.out hz1)
    clear hz1
    go_wp2_with fail
    refine (C6.out w14 hb14).mono ?_
    rintro e w15 ⟨rfl, hb15⟩
    rw [← HR.out]
    have hq15 := hq14.below hb15
    have hb15 := below_step hb14 hb15
    clear hq14 hb14
    by_cases hz2 : E2 = 0
    · have e2 : (E2 == 0) = true := by simp [hz2]
      have HV := Lib.hid (HU.out hz2)
      clear hz2
      go_wp2_with fail
      refine (C7.out w15 hb15).mono ?_
      rintro e w16 ⟨vw, hvw, rfl, hb16⟩
      rw [← HV.out] at hvw
      obtain ⟨wa, wc, rfl⟩ := owns_shape hvw
      have hW16 := strs_of_owns hvw HL.out
      have hq16 := hq15.below hb16
      have hb16 := below_step hb15 hb16
      clear hq15 hb15 hvw
      go_wp2_with fail
      refine (C8.out w16 hb16).mono ?_
      rintro e w17 ⟨rfl, hb17⟩
      have hq17 := hq16.below hb17
      have hW17 := hW16.below hb17
      have hb17 := below_step hb16 hb17
      clear hq16 hW16 hb16
      go_wp2_with fail
      refine (C3.out w17 hb17).mono ?_
      rintro e w18 ⟨rfl, hb18⟩
      have hq18 := hq17.below hb18
      have hW18 := hW17.below hb18
      have hb18 := below_step hb17 hb18
      clear hq17 hW17 hb17
      go_wp2_with fail
      refine (C9.out w18 hb18).mono ?_
      rintro e w19 ⟨rfl, hb19⟩
      have hq19 := hq18.below hb19
      have hW19 := hW18.below hb19
      have hb19 := below_step hb18 hb19
      clear hq18 hW18 hb18
      go_wp2_with fail
      refine (equal_calls _ _ _ _ R2 R2 w19 hq19 hW19 HL.out HL.out).mono ?_
      rintro e w20 ⟨rfl, hb20⟩
      have hb20 := below_step hb19 hb20
      rw [decide_eq_true rfl]
      clear hq19 hW19 hb19
      go_wp2_with fail
      refine (C10.out w20 hb20).mono ?_
      rintro e w21 ⟨rfl, hb21⟩
      go_wp2_with fail
      go_ret
      exact ⟨rfl, below_step HB6.out (below_step hb20 hb21)⟩

    · have e2 : (E2 == 0) = false := by simp [hz2]
      have HV := Lib.hid (HU0.out hz2)
      clear hz2
      obtain ⟨w16, h16⟩ : ∃ w16, w16 = w15 := ⟨_, rfl⟩
      have hq16 := hq15
      have hb16 := hb15
      rw [← h16] at hq16 hb16 ⊢
      have hW16 : Strs w16 w6.heap.size (.slice none 0 0) [] := ⟨by simp, by simp, .inl ⟨rfl, rfl⟩⟩
      rw [← HV.out] at hW16
      clear hq15 hb15 h16
      go_wp2_with fail
      refine (C8.out w16 hb16).mono ?_
      rintro e w17 ⟨rfl, hb17⟩
      have hq17 := hq16.below hb17
      have hW17 := hW16.below hb17
      have hb17 := below_step hb16 hb17
      clear hq16 hW16 hb16
      go_wp2_with fail
      refine (C3.out w17 hb17).mono ?_
      rintro e w18 ⟨rfl, hb18⟩
      have hq18 := hq17.below hb18
      have hW18 := hW17.below hb18
      have hb18 := below_step hb17 hb18
      clear hq17 hW17 hb17
      go_wp2_with fail
      refine (C9.out w18 hb18).mono ?_
      rintro e w19 ⟨rfl, hb19⟩
      have hq19 := hq18.below hb19
      have hW19 := hW18.below hb19
      have hb19 := below_step hb18 hb19
      clear hq18 hW18 hb18
      go_wp2_with fail
      refine (equal_calls _ _ _ _ R2 R2 w19 hq19 hW19 HL.out HL.out).mono ?_
      rintro e w20 ⟨rfl, hb20⟩
      have hb20 := below_step hb19 hb20
      rw [decide_eq_true rfl]
      clear hq19 hW19 hb19
      go_wp2_with fail
      refine (C10.out w20 hb20).mono ?_
      rintro e w21 ⟨rfl, hb21⟩
      go_wp2_with fail
      go_ret
      exact ⟨rfl, below_step HB6.out (below_step hb20 hb21)⟩

  · have e1 : (E1 == 0) = false := by simp [hz1]
    have HR := Lib.hid (HT0.out hz1)
    clear hz1
    obtain ⟨w15, h15⟩ : ∃ w15, w15 = w14 := ⟨_, rfl⟩
    have hq15 := hq14
    have hb15 := hb14
    rw [← h15] at hq15 hb15 ⊢
    rw [HR.out] at C1 ⊢
    clear hq14 hb14 h15
    by_cases hz2 : E2 = 0
    · have e2 : (E2 == 0) = true := by simp [hz2]
      have HV := Lib.hid (HU.out hz2)
      clear hz2
      go_wp2_with fail
      refine (C7.out w15 hb15).mono ?_
      rintro e w16 ⟨vw, hvw, rfl, hb16⟩
      rw [← HV.out] at hvw
      obtain ⟨wa, wc, rfl⟩ := owns_shape hvw
      have hW16 := strs_of_owns hvw HL.out
      have hq16 := hq15.below hb16
      have hb16 := below_step hb15 hb16
      clear hq15 hb15 hvw
      go_wp2_with fail
      refine (C8.out w16 hb16).mono ?_
      rintro e w17 ⟨rfl, hb17⟩
      have hq17 := hq16.below hb17
      have hW17 := hW16.below hb17
      have hb17 := below_step hb16 hb17
      clear hq16 hW16 hb16
      go_wp2_with fail
      refine (C3.out w17 hb17).mono ?_
      rintro e w18 ⟨rfl, hb18⟩
      have hq18 := hq17.below hb18
      have hW18 := hW17.below hb18
      have hb18 := below_step hb17 hb18
      clear hq17 hW17 hb17
      go_wp2_with fail
      refine (C9.out w18 hb18).mono ?_
      rintro e w19 ⟨rfl, hb19⟩
      have hq19 := hq18.below hb19
      have hW19 := hW18.below hb19
      have hb19 := below_step hb18 hb19
      clear hq18 hW18 hb18
      go_wp2_with fail
      refine (equal_calls _ _ _ _ R2 R2 w19 hq19 hW19 HL.out HL.out).mono ?_
      rintro e w20 ⟨rfl, hb20⟩
      have hb20 := below_step hb19 hb20
      rw [decide_eq_true rfl]
      clear hq19 hW19 hb19
      go_wp2_with fail
      refine (C10.out w20 hb20).mono ?_
      rintro e w21 ⟨rfl, hb21⟩
      go_wp2_with fail
      go_ret
      exact ⟨rfl, below_step HB6.out (below_step hb20 hb21)⟩

    · have e2 : (E2 == 0) = false := by simp [hz2]
      have HV := Lib.hid (HU0.out hz2)
      clear hz2
      obtain ⟨w16, h16⟩ : ∃ w16, w16 = w15 := ⟨_, rfl⟩
      have hq16 := hq15
      have hb16 := hb15
      rw [← h16] at hq16 hb16 ⊢
      have hW16 : Strs w16 w6.heap.size (.slice none 0 0) [] := ⟨by simp, by simp, .inl ⟨rfl, rfl⟩⟩
      rw [← HV.out] at hW16
      clear hq15 hb15 h16
      go_wp2_with fail
      refine (C8.out w16 hb16).mono ?_
      rintro e w17 ⟨rfl, hb17⟩
      have hq17 := hq16.below hb17
      have hW17 := hW16.below hb17
      have hb17 := below_step hb16 hb17
      clear hq16 hW16 hb16
      go_wp2_with fail
      refine (C3.out w17 hb17).mono ?_
      rintro e w18 ⟨rfl, hb18⟩
      have hq18 := hq17.below hb18
      have hW18 := hW17.below hb18
      have hb18 := below_step hb17 hb18
      clear hq17 hW17 hb17
      go_wp2_with fail
      refine (C9.out w18 hb18).mono ?_
      rintro e w19 ⟨rfl, hb19⟩
      have hq19 := hq18.below hb19
      have hW19 := hW18.below hb19
      have hb19 := below_step hb18 hb19
      clear hq18 hW18 hb18
      go_wp2_with fail
      refine (equal_calls _ _ _ _ R2 R2 w19 hq19 hW19 HL.out HL.out).mono ?_
      rintro e w20 ⟨rfl, hb20⟩
      have hb20 := below_step hb19 hb20
      rw [decide_eq_true rfl]
      clear hq19 hW19 hb19
      go_wp2_with fail
      refine (C10.out w20 hb20).mono ?_
      rintro e w21 ⟨rfl, hb21⟩
      go_wp2_with fail
      go_ret
      exact ⟨rfl, below_step HB6.out (below_step hb20 hb21)⟩

end Go.Proofs.YtmjkbmkjnbpgeaaGreatDoor
