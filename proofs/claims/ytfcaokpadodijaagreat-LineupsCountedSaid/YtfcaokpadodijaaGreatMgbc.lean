/- LineupsCounted: the law's walk. -/
import Derived.Test.YtfcaokpadodijaaGreatMgay
import Derived.Test.YtfcaokpadodijaaGreatMgba
import Derived.Test.YtfcaokpadodijaaGreatMgan
import Derived.Test.YtfcaokpadodijaaGreatMgaz
import Derived.Test.YtfcaokpadodijaaGreatMgap
import Derived.Test.YtfcaokpadodijaaGreatMgbb
import Derived.Test.YtfcaokpadodijaaGreatMgal
import Derived.Test.YtfcaokpadodijaaGreatMgaf
import Derived.Deep.CutRange
namespace Go.Proofs.YtfcaokpadodijaaGreat
open Go.RowKit

theorem lc1_calls (f : FiD) (k : ByteArray) (X : Nat) (w : World) (hX : w.cell? ⟨X, 0, none⟩ = some (.string k)) :
  Calls Tryz.prog 18 #[.agg #[.string f.slot, .string f.who], .pointer (some ⟨X, 0, none⟩)] w (BoolIs (beqS f.who k) w) := by
 go_enter Tryz.func18, Tryz.ntmps18
 have hX1 := below_cell (below_alloc w (.cells #[.string f.slot, .string f.who] 49)) hX
 go_wp2_with fail
 go_ret
 exact ⟨ret_bool (by unfold beqS; rfl), below_alloc w _⟩
theorem fr_ne : 34 ≠ 9 := by decide
theorem set_fr {w : World} {X : Nat} {a0 b0 : Value} (h : w.heap[X]? = some (.cells #[a0, b0] 34 (0, 0))) (a b : Value) :
  ∃ W, (w.setCell ⟨X, 0, none⟩ a).setCell ⟨X, 1, none⟩ b = W ∧ W.heap[X]? = some (.cells #[a, b] 34 (0, 0)) ∧ (∀ (g : Nat) (o : Obj), w.heap[g]? = some o → g ≠ X → W.heap[g]? = some o) ∧ ∀ (c : Nat) (w0 : World), c ≤ X → Below c w0 w → Below c w0 W :=
 ⟨_, rfl, set_cells (o := 1) (set_cells (o := 0) h a) b, fun _ _ hg hne => heap_far (heap_far hg hne) hne, fun _ _ hc hb => below_set (below_set hb hc a) hc b⟩
/-- What is drawn: right or wrong sides, fills, a captain. -/
def LcB (lo1 lo2 lo3 X7 : Nat) (sv cv fv : Value) (ss : List SlD) (cs : List ScD) (fs : List FiD) (k : ByteArray) (w : World) : Prop :=
 Sls w lo1 sv ss ∧ Scs w lo2 cv cs ∧ Fis w lo3 fv fs ∧ w.cell? ⟨X7, 0, none⟩ = some (.string k)
set_option maxRecDepth 100000 in
set_option maxHeartbeats 32000000 in
theorem counted_law (lv : Value) (w : World) (hl : Tape w lv) : Calls Tryz.prog 3 #[lv] w (BoolIs true w) := by
 have hs1 := hl.stm 25
 obtain ⟨la, ln, lc, rfl⟩ := hl.shape
 clear hl
 go_enter Tryz.func3, Tryz.ntmps3
 go_wp2_with fail
 refine (slots_calls w.heap.size 0 _ hs1 (by omega)).mono ?_
 rintro e w1 ⟨vs, ⟨ss, hS, hsn, hsm⟩, rfl, hs1', hg1⟩
 have hb1 : Below w.heap.size w w1 := (below_alloc w _).grown hg1 (by simp) (fun r hr => by cases hr; exact Nat.le_refl _)
 have hlo1 : w.heap.size < (w.alloc (.cells #[.slice la ln lc, .int .i64 0] 25)).heap.size := by simp
 have hlo2 : w.heap.size < w1.heap.size := hs1'.lt
 generalize (w.alloc (.cells #[.slice la ln lc, .int .i64 0] 25)).heap.size = lo1 at hS hlo1
 have Hsm := Lib.hid hsm
 obtain ⟨sa, sc, rfl⟩ := NRows.shape hS
 clear hs1 hg1 hsm
 go_wp2_with fail
 refine (scorers_calls w.heap.size _ w1 hs1' (by omega)).mono ?_
 rintro e w2 ⟨vc, ⟨cs, hC, hcn, hcm⟩, rfl, hs2, hg2⟩
 have hz2 := hg2.size
 have hb2 := hb1.grown hg2 hb1.size (fun r hr => by cases hr; exact Nat.le_refl _)
 replace hS := NRows.other hS hg2 hlo1
 have Hcm := Lib.hid hcm
 obtain ⟨ca, cc, rfl⟩ := NRows.shape hC
 clear hs1' hg2 hcm hb1
 go_wp2_with fail
 refine (fills_calls w.heap.size _ lo1 w1.heap.size _ _ ss cs w2 hs2 (by omega) hS hlo1 hsn Hsm.out hC hlo2 hcn Hcm.out).mono ?_
 rintro e w3 ⟨vf, ⟨fs, hF, hfn, hfm⟩, rfl, hs3, hg3⟩
 have hz3 := hg3.size
 have hb3 := hb2.grown hg3 hb2.size (fun r hr => by cases hr; exact Nat.le_refl _)
 have hlo3 : w.heap.size < w2.heap.size := hs2.lt
 have hlo4 : w.heap.size < w3.heap.size := hs3.lt
 replace hS := NRows.other hS hg3 hlo1
 replace hC := NRows.other hC hg3 hlo2
 obtain ⟨fa, fc, rfl⟩ := fis_shape hF
 clear hs2 hg3 hfm hb2
 have hA := strs_new w3 [⟨#[97, 110, 110]⟩, ⟨#[98, 101, 97]⟩, ⟨#[]⟩, ⟨#[122, 101, 100]⟩] (by simp)
 have hbA := below_alloc w3 (.cells ([⟨#[97, 110, 110]⟩, ⟨#[98, 101, 97]⟩, ⟨#[]⟩, ⟨#[122, 101, 100]⟩].map Value.string).toArray 9)
 have CS := Lib.hid (some_calls w.heap.size _ _ _ _ _ (hs3.below hbA) (by omega) hA hlo4 (by simp))
 have HbA := Lib.hid hbA
 clear hA hbA
 go_wp2_with fail
 refine CS.out.mono ?_
 rintro e w4 ⟨v, ⟨k, rfl, hk⟩, rfl, hs4, hg4⟩
 have hbs : Below w.heap.size w w4 := (hb3.trans (HbA.out.mono hb3.size)).grown hg4 (by have := hb3.size; have := HbA.out.size; omega) (fun r hr => by cases hr; exact Nat.le_refl _)
 replace hS := NRows.other (NRows.below hS HbA.out) hg4 hlo1
 replace hC := NRows.other (NRows.below hC HbA.out) hg4 hlo2
 replace hF := (hF.below HbA.out).other hg4 hlo3
 have hz4 := hg4.size
 have hz5 := HbA.out.size
 obtain ⟨X7, W5, e7, f7, h7, hb7⟩ := any_box w4 (.cells #[.string k] 9)
 have hB := Lib.hid (show ∀ w', Below W5.heap.size W5 w' → LcB lo1 w1.heap.size w2.heap.size X7 (.slice sa ss.length sc) (.slice ca cs.length cc) (.slice fa fs.length fc) ss cs fs k w' from fun w' hb =>
  ⟨NRows.below (NRows.below hS hb7) hb, NRows.below (NRows.below hC hb7) hb, (hF.below hb7).below hb, below_cell hb (cell_at h7 0 rfl)⟩)
 have HB0 := Lib.hid (below_step hbs hb7)
 have hloC : w1.heap.size ≤ W5.heap.size := by have := hb7.size; omega
 have hss : ss.length ≤ 1000 := by omega
 have hcs : cs.length ≤ 1000 := by omega
 have hfs : fs.length ≤ 1000000 := by omega
 -- the values that both sides give
 have HN0 := Lib.hid (fun h : smE ss cs fs k = 0 => sm_smR h)
 have HN1 := Lib.hid (fun h : smE ss cs fs k ≠ 0 => (show smR ss cs fs k = (0, 0) by unfold smR; rw [if_neg h]))
 have HM0 := Lib.hid (fun h : chkFi ss cs fs = 0 => sm_left h)
 have HM1 := Lib.hid (fun h : chkFi ss cs fs ≠ 0 => (show leftF ss cs fs = (0, 0) by unfold leftF; rw [if_neg h]))
 have hfit : chkFi ss cs fs = 0 → ∀ c ∈ cs, FitW c := fun h c hc => (sc_parts (chk_scs h) hc).2.2
 have C4 := Lib.hid (fun w' hb => scoreSum_calls w1.heap.size lo1 w2.heap.size _ _ _ ss cs fs k w' (hB.out w' hb).1 Hsm.out hss (hB.out w' hb).2.1 Hcm.out hcs (by have := hb.size; omega) (hB.out w' hb).2.2.1 hfs hfit)
 have C5 := Lib.hid (fun w' hb => left_calls w1.heap.size lo1 w2.heap.size _ _ _ ss cs fs w' (hB.out w' hb).1 Hsm.out hss (hB.out w' hb).2.1 Hcm.out (by omega) (by have := hb.size; omega) (hB.out w' hb).2.2.1 hfs hfit)
 have C6 := Lib.hid (fun w' hb => bench_calls w1.heap.size lo1 w2.heap.size _ _ _ ss cs fs w' (hB.out w' hb).1 Hsm.out (by omega) (hB.out w' hb).2.1 Hcm.out hcs (by have := hb.size; omega) (hB.out w' hb).2.2.1 hfs)
 have CSf := Lib.hid (fun w' hb => slotsFault_calls lo1 _ ss w' (hB.out w' hb).1 Hsm.out)
 have CCf := Lib.hid (fun w' hb => scorersFault_calls w1.heap.size _ cs w' (hB.out w' hb).2.1 Hcm.out (by omega))
 have CFf := Lib.hid (fun (h : chkSc cs = 0) w' hb => fillsFault_calls w1.heap.size lo1 w2.heap.size _ _ _ ss cs fs w' (hB.out w' hb).1 (hB.out w' hb).2.1 (scs_sorted h) (by omega) (hB.out w' hb).2.2.1 hfs)
 have CCk := Lib.hid (fun w' hb => containsFi_calls 18 #[.pointer (some ⟨X7, 0, none⟩)] (fun f => beqS f.who k) w2.heap.size _ fs w' (hB.out w' hb).2.2.1 (by intro args w; go_simp) (fun W f hb' => lc1_calls f k X7 W (hB.out W (below_step hb hb')).2.2.2))
 have CSm := Lib.hid (fun (h : chkFi ss cs fs = 0) (q : ByteArray) w' hb => sumOf_calls w1.heap.size w2.heap.size _ _ cs fs q w' (hB.out w' hb).2.1 (scs_sorted (chk_scs h)) (hB.out w' hb).2.2.1 hfs (hfit h) (fun c hc => (sc_parts (chk_scs h) hc).2.1) (fun f hf hz => by
  obtain ⟨i, hi⟩ := List.getElem?_of_mem hf
  exact (fi_parts h hi hz).1))
 have CBf := Lib.hid (fun (h : chkFi ss cs fs = 0) w' hb => bestOf_calls cs ss lo1 w1.heap.size _ _ w' (hB.out w' hb).1 (hB.out w' hb).2.1 (chk_len h).2.1 hsn hcn (hfit h) (fun c hc => (sc_parts (chk_scs h) hc).2.1) (scs_sorted (chk_scs h)) (fun c hc => (sc_parts (chk_scs h) hc).1))
 have CBo := Lib.hid (fun w' hb => benchOf_calls w1.heap.size w2.heap.size _ _ cs fs w' (hB.out w' hb).2.1 (hB.out w' hb).2.2.1 hcs)
 have CC1 := Lib.hid (fun w' hb => checkSlots_calls lo1 _ ss w' (hB.out w' hb).1 Hsm.out (by omega))
 have CC2 := Lib.hid (fun w' hb => checkScorers_calls w1.heap.size _ cs w' (hB.out w' hb).2.1 Hcm.out (by omega))
 have CC3 := Lib.hid (fun w' hb => checkFills_calls w1.heap.size lo1 w2.heap.size _ _ _ ss cs fs w' (hB.out w' hb).1 Hsm.out (by omega) (hB.out w' hb).2.1 Hcm.out (by omega) (by have := hb.size; omega) (hB.out w' hb).2.2.1 hfs)
 have HSm := Lib.hid (fun h : smE ss cs fs k = 0 => sm_small h hfs)
 have HSl := Lib.hid (fun h : chkFi ss cs fs = 0 => (show -2000001000000 ≤ (luN cs ss 0 0).sum - smF cs fs ⟨#[]⟩ ∧ (luN cs ss 0 0).sum - smF cs fs ⟨#[]⟩ ≤ 2000001000000 by
  have h1 := lu_small (ss := ss) (chk_scs h) (by omega)
  have h2 := sumFi_small (hfit h) fs hfs
  rw [sm_none h]
  omega))
 have HSE := Lib.hid (fun h : smE ss cs fs k = 0 => smE_zero h)
 have HSq := Lib.hid (show smE ss cs fs k = firstE [chkFi ss cs fs, unlessE (decide (k.size = 0) || fs.any fun f => beqS f.who k) 8] from rfl)
 have HFi0 := Lib.hid (fun h : sdE ss cs = 0 => (fiE_eq (fs := fs) h).symm)
 have HFi1 := Lib.hid (fun h : sdE ss cs ≠ 0 => (show chkFi ss cs fs = sdE ss cs by
  have e : ch0 ss cs fs = sdE ss cs := by unfold ch0; simp [firstE, h]
  unfold chkFi
  rw [e, if_neg h]))
 have HSc := Lib.hid (fun h : sdE ss cs = 0 => (first2_zero (show firstE [chkSl ss, chkSc cs] = 0 from h)).2)
 have HSd := Lib.hid (show firstE [chkSl ss, chkSc cs] = sdE ss cs from rfl)
 have HBl := Lib.hid (show (bnOf cs fs).length ≤ 1000000 from Nat.le_trans (bnOf_len cs fs) (by omega))
 clear hS hC hF hbs hb3 HbA CS hs3 hs4 hg4 hk hfit
 have hbx := Below.refl W5.heap.size W5
 have x7 := cell_at h7 0 rfl
 go_upto_region 4 with fail
 clear e7 f7 h7 hb7
 generalize smR ss cs fs k = fr at C4 HN0 HN1
 generalize leftF ss cs fs = lf at C5 HM0 HM1
 generalize smE ss cs fs k = SE at C4 HN0 HN1 HSm HSE HSq
 generalize chkFi ss cs fs = FA at C5 C6 CSm CBf CC3 HM0 HM1 HSl HSE HSq HFi0 HFi1
 generalize sdE ss cs = SD at HFi0 HFi1 HSc HSd
 generalize fiE ss cs fs = FI at CFf HFi0
 generalize chkSl ss = ES at CSf CC1 HSd
 generalize chkSc cs = EC at CCf CC2 CFf HSc HSd
 generalize bnOf cs fs = bn at C6 CBo HBl
 generalize (fs.any fun f => beqS f.who k) = qk at CCk HSq
 go_wp2_with fail
 refine (C4.out W5 hbx).mono ?_
 rintro e w6 ⟨rfl, hb6⟩
 unfold frV
 clear C4 hbx x7
 go_upto_region 5 with fail
 obtain ⟨X8, W8, e8, f8, h8, hb8⟩ := any_box w6 (.cells #[.int .i64 fr.1, .int .i64 fr.2] 34)
 rw [f8, e8]
 have hb8' := below_step hb6 hb8
 clear e8 f8 hb8 hb6
 go_wp2_with fail
 refine (C5.out W8 hb8').mono ?_
 rintro e w9 ⟨rfl, hb9⟩
 unfold frV
 replace h8 := keep_heap h8 hb9
 have hb9' := below_step hb8' hb9
 clear C5 hb8' hb9
 go_upto_region 6 with fail
 obtain ⟨X10, W10, e10, f10, h10, hb10⟩ := any_box w9 (.cells #[.int .i64 lf.1, .int .i64 lf.2] 34)
 rw [f10, e10]
 replace h8 := keep_heap h8 hb10
 have hb10' := below_step hb9' hb10
 clear e10 f10 hb10 hb9'
 go_wp2_with fail
 refine (C6.out W10 hb10').mono ?_
 rintro e w11 ⟨bv, rfl, hbo, hbn, hb11⟩
 replace h8 := keep_heap h8 hb11
 replace h10 := keep_heap h10 hb11
 have hb11' := below_step hb10' hb11
 obtain ⟨BL, hBL0, hBL1, hBLl, hbs⟩ : ∃ BL : List ByteArray, (FA = 0 → BL = bn) ∧ (FA ≠ 0 → BL = []) ∧ BL.length ≤ 1000000 ∧ Strs w11 0 bv BL := by
  by_cases h : FA = 0
  ·exact ⟨bn, fun _ => rfl, fun h' => absurd h h', HBl.out, (strs_of_owns (hbo h) HBl.out).mono (Nat.zero_le _)⟩
  ·rw [hbn h]; exact ⟨[], fun h' => absurd h' h, fun _ => rfl, by simp, strs_nilF _ _⟩
 have HBL0 := Lib.hid hBL0
 have HBL1 := Lib.hid hBL1
 have HBLl := Lib.hid hBLl
 obtain ⟨ba, bl, bc, rfl⟩ := strs_shapeN hbs
 have HBs := Lib.hid (fun w' (hb : Below w11.heap.size w11 w') => hbs.below hb)
 have HX := Lib.hid (fun w' (hb : Below w11.heap.size w11 w') => And.intro (keep_heap h8 hb) (keep_heap h10 hb))
 have Hb11 := Lib.hid hb11'
 clear C6 hb10' hb11 hb11' hbo hbn hBL0 hBL1 hBLl hbs h8 h10
 have hb0 := Below.refl w11.heap.size w11
 go_upto_region 7 with fail
 go_wp2_with fail
 refine (CSf.out w11 Hb11.out).mono ?_
 rintro e w12 ⟨rfl, hb12⟩
 go_wp2_with fail
 refine (CCf.out w12 (below_step Hb11.out hb12)).mono ?_
 rintro e w13 ⟨rfl, hb13⟩
 replace hb13 := below_step hb12 hb13
 clear hb0 hb12
 go_wp2_with fail
 refine (errs_calls _ 0 2 [ES, EC] _ (by simp) (by exact nums2 _ _ _ _)).mono ?_
 rintro e w14 ⟨rfl, rfl⟩
 rw [HSd.out]
 have hb14 := below_step hb13 (below_alloc w13 (.cells #[.int .i64 ES, .int .i64 EC] 35))
 generalize hW14 : w13.alloc (.cells #[.int .i64 ES, .int .i64 EC] 35) = W14 at hb14 ⊢
 clear hW14 hb13 HSd
 go_upto_if 64 with fail
 go_cut [14] from 21 to 160 (fun v we => v = .int .i64 FA ∧ Below w11.heap.size w11 we)
 case first =>
  by_cases hz : SD = 0
  ·subst hz
   have C := Lib.hid (CFf.out (HSc.out rfl) W14 (below_step Hb11.out hb14))
   have Hf := Lib.hid (HFi0.out rfl)
   clear CFf HSc HFi0 HFi1
   go_wp2_with fail
   refine C.out.mono ?_
   rintro e w15 ⟨rfl, hb15⟩
   rw [Hf.out]
   go_wp2_with fail
   go_meet
   case rel => exact ⟨rfl, below_step hb14 hb15⟩
  ·have hne : (SD == 0) = false := by rw [beq_eq_false_iff_ne]; exact hz
   have Hf := Lib.hid (HFi1.out hz)
   clear hz
   go_wp2_with fail
   go_meet
   case rel => exact ⟨by rw [Hf.out], hb14⟩
 case rest =>
  obtain ⟨rfl, hbe⟩ := hcut
  obtain ⟨w15, hw15⟩ : ∃ x, x = wc := ⟨_, rfl⟩
  rw [← hw15] at hbe ⊢
  clear hw15 hb14 CFf HSc HFi0 HFi1
  go_upto_region 10 with fail
  go_cut [15] from 21 to 160 (fun v wf => v = .int .i64 SE ∧ Below w11.heap.size w11 wf)
  case first =>
   have x7 := (hB.out w15 (below_step Hb11.out hbe)).2.2.2
   have hE := empty_of k
   by_cases hz : k.size = 0
   ·have e2 : k.toList.isEmpty = true := by rw [hE]; exact decide_eq_true hz
    have Hq := Lib.hid (show SE = firstE [FA, 0] by rw [HSq.out, decide_eq_true hz]; rfl)
    clear hz hE
    go_wp2_with fail
    refine (when_calls false 8 w15).mono ?_
    rintro e w16 ⟨rfl, rfl⟩
    go_wp2_with fail
    refine (errs_calls _ 0 2 [FA, 0] _ (by simp) (by exact nums2 _ _ _ _)).mono ?_
    rintro e w17 ⟨rfl, rfl⟩
    rw [← Hq.out]
    go_wp2_with fail
    go_meet
    case rel => exact ⟨rfl, below_step hbe (below_alloc _ _)⟩
   ·have e2 : k.toList.isEmpty = false := by rw [hE]; exact decide_eq_false hz
    have Hz := Lib.hid (decide_eq_false hz)
    clear hz hE
    go_wp2_with fail
    refine (CCk.out w15 (below_step Hb11.out hbe)).mono ?_
    rintro e w16 ⟨rfl, hb16⟩
    replace hb16 := below_step hbe hb16
    cases qk
    ·have Hq := Lib.hid (show SE = firstE [FA, 8] by rw [HSq.out, Hz.out]; rfl)
     clear CCk HSq
     go_wp2_with fail
     refine (when_calls true 8 w16).mono ?_
     rintro e w17 ⟨rfl, rfl⟩
     go_wp2_with fail
     refine (errs_calls _ 0 2 [FA, 8] _ (by simp) (by exact nums2 _ _ _ _)).mono ?_
     rintro e w17 ⟨rfl, rfl⟩
     rw [← Hq.out]
     go_wp2_with fail
     go_meet
     case rel => exact ⟨rfl, below_step hb16 (below_alloc _ _)⟩
    ·have Hq := Lib.hid (show SE = firstE [FA, 0] by rw [HSq.out, Hz.out]; rfl)
     clear CCk HSq
     go_wp2_with fail
     refine (when_calls false 8 w16).mono ?_
     rintro e w17 ⟨rfl, rfl⟩
     go_wp2_with fail
     refine (errs_calls _ 0 2 [FA, 0] _ (by simp) (by exact nums2 _ _ _ _)).mono ?_
     rintro e w17 ⟨rfl, rfl⟩
     rw [← Hq.out]
     go_wp2_with fail
     go_meet
     case rel => exact ⟨rfl, below_step hb16 (below_alloc _ _)⟩
  case rest =>
   obtain ⟨rfl, hbf⟩ := hcut
   obtain ⟨w18, hw18⟩ : ∃ x, x = wc := ⟨_, rfl⟩
   rw [← hw18] at hbf ⊢
   clear hw18 hbe CCk HSq
   go_upto_if 84 with fail
   obtain ⟨X16, W16, e16, f16, h16, hb16⟩ := any_box w18 (.cells #[.int .i64 0, .int .i64 0] 34)
   obtain ⟨X17, W17, e17, f17, h17, hb17⟩ := any_box W16 (.cells #[.int .i64 0, .int .i64 0] 34)
   have g17 : X17 = X16 + 1 := by rw [← e17, ← f16, World.size_alloc, e16]
   have z16 : w18.heap.size ≤ X16 := by omega
   have z17 : X17 ≠ X16 := by omega
   have zz : w18.heap.size ≤ X17 := by omega
   replace h16 := keep_heap h16 hb17
   have hbz := below_step hb16 hb17
   rw [f16, e16, f17, ← g17]
   clear e16 f16 e17 f17 g17 hb16 hb17
   have H16 := Lib.hid h16
   have H17 := Lib.hid h17
   clear h16 h17
   go_cut [] from 21 to 160 (fun wd => wd.heap[X16]? = some (.cells #[.int .i64 fr.1, .int .i64 fr.2] 34 (0, 0)) ∧ wd.heap[X17]? = some (.cells #[.int .i64 0, .int .i64 0] 34 (0, 0)) ∧ Below w18.heap.size w18 wd)
   case first =>
    by_cases hz : SE = 0
    ·subst hz
     have hfa := HSE.out rfl
     have C := Lib.hid (CSm.out hfa k W17 (below_step Hb11.out (below_step hbf hbz)))
     have COf := Lib.hid (fun w' => (show Calls Tryz.prog 19 #[.int .i64 (smF cs fs k)] w' (fun e w'' => e = .returned (.agg #[.int .i64 fr.1, .int .i64 fr.2]) ∧ Below w'.heap.size w' w'') from by
      rw [HN0.out rfl]
      exact ofHundredthsR_calls (smF cs fs k) w' (by have := HSm.out rfl; unfold Int64; omega)))
     have x7 := (hB.out W17 (below_step Hb11.out (below_step hbf hbz))).2.2.2
     clear CSm CBf HSl HM0 HM1 hfa HN0 HN1 HSm HSE HBL0 HBL1
     generalize smF cs fs k = sk at C COf
     go_wp2_with fail
     refine C.out.mono ?_
     rintro e w19 ⟨rfl, hb19⟩
     go_wp2_with fail
     refine (COf.out w19).mono ?_
     rintro e w20 ⟨rfl, hb20⟩
     replace hb20 := below_step hb19 hb20
     have h16 := keep_heap H16.out hb20
     have h17 := keep_heap H17.out hb20
     have c0 := cell_at h16 0 rfl
     have c1 := cell_at h16 1 rfl
     have f0 := free_of h16 0
     have f1 := free_of h16 1
     replace hb20 := below_step hbz hb20
     clear x7 hb19
     go_wp2_with fail
     go_meet
     case rel =>
      obtain ⟨V, eV, v1, v2, v3⟩ := set_fr h16 (.int .i64 fr.1) (.int .i64 fr.2)
      rw [eV]
      exact ⟨v1, v2 _ _ h17 z17, v3 _ _ z16 hb20⟩
    ·have hne : (SE == 0) = false := by rw [beq_eq_false_iff_ne]; exact hz
     have hfr := HN1.out hz
     have h16 := H16.out
     have h17 := H17.out
     clear hz
     go_wp2_with fail
     go_meet
     case rel => rw [hfr]; exact ⟨h16, h17, hbz⟩
   case rest =>
    obtain ⟨h16, h17, hbw⟩ := hcut
    obtain ⟨w21, hw21⟩ : ∃ x, x = wc := ⟨_, rfl⟩
    rw [← hw21] at h16 h17 hbw ⊢
    clear hw21 hbz H16 H17
    have H16 := Lib.hid h16
    have H17 := Lib.hid h17
    clear h16 h17
    go_upto_if 91 with fail
    go_cut [18, 19, 20] from 21 to 160 (fun v a b wd => (∃ p n q, v = .slice p n q) ∧ Strs wd 0 v BL ∧ wd.heap[X16]? = some (.cells #[.int .i64 fr.1, .int .i64 fr.2] 34 (0, 0)) ∧ wd.heap[X17]? = some (.cells #[.int .i64 lf.1, .int .i64 lf.2] 34 (0, 0)) ∧ Below w18.heap.size w18 wd)
    case first =>
     by_cases hz : FA = 0
     ·subst hz
      have hbl := HBL0.out rfl
      subst hbl
      have hb5 := below_step Hb11.out (below_step hbf hbw)
      have CB := Lib.hid (CBf.out rfl w21 hb5)
      have CS2 := Lib.hid (fun w' hb => CSm.out rfl ⟨#[]⟩ w' hb)
      have hsl := HSl.out rfl
      have COf := Lib.hid (fun w' => (show Calls Tryz.prog 19 #[.int .i64 ((luN cs ss 0 0).sum - smF cs fs ⟨#[]⟩)] w' (fun e w'' => e = .returned (.agg #[.int .i64 lf.1, .int .i64 lf.2]) ∧ Below w'.heap.size w' w'') from by
       rw [HM0.out rfl]
       exact ofHundredthsR_calls _ w' (by unfold Int64; omega)))
      have Hb5 := Lib.hid hb5
      unfold BofV at CB
      have hwr : IntKind.i64.wrap ((luN cs ss 0 0).sum - smF cs fs ⟨#[]⟩) = (luN cs ss 0 0).sum - smF cs fs ⟨#[]⟩ := by rw [IntKind.wrap_i64]; omega
      generalize (luN cs ss 0 0).sum = sB at CB COf hwr hsl
      generalize smF cs fs ⟨#[]⟩ = sN at CS2 COf hwr hsl
      clear CSm CBf HSl HM0 HM1 HN0 HN1 HSm HSE HBL0 HBL1 hb5
      have hsl1 := hsl.1
      have hsl2 := hsl.2
      clear hsl
      go_wp2_with fail
      refine CB.out.mono ?_
      rintro e w22 ⟨bx, rfl, hbx, hb22⟩
      obtain ⟨fa', fc', rfl⟩ := fis_shape hbx
      clear hbx
      go_wp2_with fail
      refine (CS2.out w22 (below_step Hb5.out hb22)).mono ?_
      rintro e w23 ⟨rfl, hb23⟩
      replace hb23 := below_step hb22 hb23
      clear hb22
      go_wp2_with fail
      refine (COf.out w23).mono ?_
      rintro e w24 ⟨rfl, hb24⟩
      replace hb24 := below_step hb23 hb24
      clear hb23
      go_wp2_with fail
      refine (CBo.out w24 (below_step Hb5.out hb24)).mono ?_
      rintro e w25 ⟨wv, rfl, hwo, hb25⟩
      have hws := (strs_of_owns hwo HBl.out).mono (Nat.zero_le _)
      replace hb25 := below_step hb24 hb25
      have h16 := keep_heap H16.out hb25
      have h17 := keep_heap H17.out hb25
      have c0 := cell_at h17 0 rfl
      have c1 := cell_at h17 1 rfl
      have f0 := free_of h17 0
      have f1 := free_of h17 1
      obtain ⟨wa, wl, wcc, rfl⟩ := strs_shapeN hws
      replace hb25 := below_step hbw hb25
      clear hb24 hwo
      go_wp2_with fail
      go_meet
      case rel =>
       obtain ⟨V, eV, v1, v2, v3⟩ := set_fr h17 (.int .i64 lf.1) (.int .i64 lf.2)
       rw [eV]
       refine ⟨⟨_, _, _, rfl⟩, ?_, v2 _ _ h16 (Ne.symm z17), v1, v3 _ _ zz hb25⟩
       rw [← eV]
       exact strs_far (strs_far hws h17 fr_ne) (set_cells h17 _) fr_ne
     ·have hne : (FA == 0) = false := by rw [beq_eq_false_iff_ne]; exact hz
      have hlf := HM1.out hz
      have hbl := HBL1.out hz
      have h16 := H16.out
      have h17 := H17.out
      clear hz
      go_wp2_with fail
      go_meet
      case rel => rw [hlf, hbl]; exact ⟨⟨_, _, _, rfl⟩, strs_nilF _ _, h16, h17, hbw⟩
    case rest =>
     obtain ⟨⟨p, n, q, rfl⟩, hws, h16, h17, hbv⟩ := hcut
     obtain ⟨w25, hw25⟩ : ∃ x, x = wc := ⟨_, rfl⟩
     rw [← hw25] at hws h16 h17 hbv ⊢
     clear hw25 CSm CBf HSl HM0 HM1 HN0 HN1 HSm HSE HBL0 HBL1 H16 H17 hbw
     have HbV := Lib.hid (below_step hbf hbv)
     have HY := Lib.hid (fun w' (hb : Below w25.heap.size w25 w') => And.intro (HX.out w' (below_step HbV.out hb)) (And.intro (keep_heap h16 hb) (keep_heap h17 hb)))
     have HW := Lib.hid (fun w' (hb : Below w25.heap.size w25 w') => below_step Hb11.out (below_step HbV.out hb))
     have CE := Lib.hid (fun w' (hb : Below w25.heap.size w25 w') => (show Calls Tryz.prog 26 #[.slice ba bl bc, .slice p n q] w' (BoolIs true w') from by
      have h := equal_calls 0 0 (.slice ba bl bc) (.slice p n q) BL BL w' (HBs.out w' (below_step HbV.out hb)) (hws.below hb) HBLl.out HBLl.out
      rwa [decide_eq_true rfl] at h))
     have hb0 := Below.refl w25.heap.size w25
     have q1 : (ES == ES) = true := by simp
     have q2 : (EC == EC) = true := by simp
     have q3 : (FA == FA) = true := by simp
     have q4 : (SE == SE) = true := by simp
     clear hws h16 h17 hbv hbf HBs HX HBLl
     go_wp2_with fail
     refine (CC1.out w25 (HW.out w25 hb0)).mono ?_
     rintro e w26 ⟨rfl, hb26⟩
     go_wp2_with fail
     refine (CSf.out w26 (HW.out w26 hb26)).mono ?_
     rintro e w27 ⟨rfl, hb27⟩
     replace hb27 := below_step hb26 hb27
     clear hb26
     go_wp2_with fail
     refine (CC2.out w27 (HW.out w27 hb27)).mono ?_
     rintro e w28 ⟨rfl, hb28⟩
     replace hb28 := below_step hb27 hb28
     clear hb27
     go_wp2_with fail
     refine (CCf.out w28 (HW.out w28 hb28)).mono ?_
     rintro e w29 ⟨rfl, hb29⟩
     replace hb29 := below_step hb28 hb29
     clear hb28
     go_wp2_with fail
     refine (CC3.out w29 (HW.out w29 hb29)).mono ?_
     rintro e w30 ⟨rfl, hb30⟩
     replace hb30 := below_step hb29 hb30
     clear hb29
     obtain ⟨⟨x8, x10⟩, x16, x17⟩ := HY.out w30 hb30
     have a0 := cell_at x8 0 rfl
     have a1 := cell_at x8 1 rfl
     have b0 := cell_at x10 0 rfl
     have b1 := cell_at x10 1 rfl
     have c0 := cell_at x16 0 rfl
     have c1 := cell_at x16 1 rfl
     have d0 := cell_at x17 0 rfl
     have d1 := cell_at x17 1 rfl
     clear x8 x10 x16 x17
     go_wp2_with fail
     refine (CE.out w30 hb30).mono ?_
     rintro e w31 ⟨rfl, hb31⟩
     replace hb31 := below_step hb30 hb31
     clear a0 a1 b0 b1 c0 c1 d0 d1 hb30
     go_wp2_with fail
     refine (scored_calls w31).mono ?_
     rintro e w32 ⟨rfl, hb32⟩
     go_wp2_with fail
     go_ret
     exact ⟨rfl, below_step HB0.out (HW.out _ (below_step hb31 hb32))⟩
end Go.Proofs.YtfcaokpadodijaaGreat
