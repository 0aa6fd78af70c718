/- The law TeamsFielded. -/
import Derived.Test.YtddnnjblpgfjeaaGreatDoorMgbf
import Derived.Test.YtddnnjblpgfjeaaGreatDoorMgbg
import Derived.Test.YtddnnjblpgfjeaaGreatDoorMgak
import Derived.Test.YtddnnjblpgfjeaaGreatDoorMgba
/- The example of chapter 8. -/
namespace Go.Proofs.YtddnnjblpgfjeaaGreatDoor
open Go.RowKit

theorem pls_one (w : World) (x : PlD) : Pls (w.alloc (.cells #[.string x.pos, .int .i64 x.many] 125)) w.heap.size (.slice (some ⟨w.heap.size, 0, none⟩) 1 1) [x] := by
 refine ⟨by simp, by simp [plRow], .inr ⟨w.heap.size, 0, 1, _, (0, 0), by simp, ⟨Nat.le_refl _, by simp⟩, heap_alloc_new w _, fun i j u hu => ?_⟩⟩
 match i, hu with
 | 0, hu =>
  have hu' : (plRow x)[j]? = some u := by simpa using hu
  match j, hu' with
  | 0, h => simpa [plRow] using h
  | 1, h => simpa [plRow] using h
 | i + 1, hu => simp at hu
def A0 : AsD := ⟨⟨#[97]⟩, ⟨#[103, 107]⟩, 5⟩
def P0 : PlD := ⟨⟨#[103, 107]⟩, 1⟩
theorem one_rank (x : AsD) : rank [x] = [x] := List.perm_singleton.1 (rank_perm [x])
theorem one_field : fieldR [A0] [P0] = [A0] := by
 unfold fieldR ofR
 have e : ([A0].filter fun x => beqS x.pos P0.pos) = [A0] := by simp [A0, P0, beqS_self]
 simp only [List.flatMap_cons, List.flatMap_nil, e, one_rank]
 rfl
theorem one_team : teamE [A0] [P0] = 0 := by kernel_rfl
theorem one_sort (k : ByteArray) : sortL [k] = [k] := by
 unfold sortL
 simp [ofL_toL]
set_option maxRecDepth 100000 in
set_option maxHeartbeats 1000000 in
theorem valued_calls (w : World) : Calls Tryz.prog 37 #[] w (BoolIs true w) := by
 have hs : ∀ c ∈ [A0], SmallA c := fun c hc => by rw [List.mem_singleton.1 hc]; unfold SmallA A0; exact ⟨by decide, by decide, by decide, by decide⟩
 have hp : ∀ c ∈ [P0], SmallP c := fun c hc => by rw [List.mem_singleton.1 hc]; unfold SmallP P0; exact ⟨by decide, by decide, by decide⟩
 have ho : OnceP [P0] := (plR (teamR one_team).2).2.2
 have hr : RiseA [A0] := (asR (teamR one_team).1).2
 have hf : ∀ x ∈ [A0], FitA x := fun x hx => ((asR (teamR one_team).1).1 x hx).2
 obtain ⟨W, hW⟩ : ∃ W, W = (w.alloc (.cells #[.string ⟨#[97]⟩, .string ⟨#[103, 107]⟩, .int .i64 5] 78)).alloc (.cells #[.string ⟨#[103, 107]⟩, .int .i64 1] 125) := ⟨_, rfl⟩
 have hb : Below w.heap.size w W := by rw [hW]; exact below_step (below_alloc w _) (below_alloc _ _)
 have hA : Ass W w.heap.size (.slice (some ⟨w.heap.size, 0, none⟩) 1 1) [A0] := by rw [hW]; exact (ass_one w A0).below (below_alloc _ _)
 have hP : Pls W (w.alloc (.cells #[.string ⟨#[97]⟩, .string ⟨#[103, 107]⟩, .int .i64 5] 78)).heap.size (.slice (some ⟨w.heap.size + 1, 0, none⟩) 1 1) [P0] := by rw [hW]; have := pls_one (w.alloc (.cells #[.string ⟨#[97]⟩, .string ⟨#[103, 107]⟩, .int .i64 5] 78)) P0; simpa [P0] using this
 have D := Lib.hid (fieldedF_right _ _ _ _ [A0] [P0] W hA hs (by simp) hP hp (by simp) ho hf one_team)
 rw [sumC_all ho hr.once, names_all ho hr.once, one_field] at D
 have e3 : sumV [A0] = 5 := rfl
 have e4 : sortL (namesA [A0]) = [⟨#[97]⟩] := one_sort _
 rw [e3, e4] at D
 clear hs hp ho hr hf hA hP e3 e4
 go_enter Tryz.func37, Tryz.ntmps37
 go_wp2_with fail
 rw [← hW]
 refine D.out.mono ?_
 rintro e w1 ⟨v, rfl, hown, hb1⟩
 have hS := strs_of_owns hown (by simp)
 obtain ⟨va, vc, rfl⟩ := strs_shape hS
 have hb01 := below_step hb hb1
 have E := Lib.hid (equal_calls _ _ _ _ [⟨#[97]⟩] [⟨#[97]⟩] (w1.alloc (.cells #[.string ⟨#[97]⟩] 9)) (hS.below (below_alloc w1 _)) (strs_one w1 ⟨#[97]⟩) (by simp) (by simp))
 rw [decide_eq_true rfl] at E
 clear D hown hS hb hb1 hW
 simp only [List.length_singleton] at E ⊢
 go_wp2_with fail
 refine E.out.mono ?_
 rintro e w2 ⟨rfl, hb2⟩
 have hbe := below_step (below_step hb01 (below_alloc w1 _)) hb2
 go_wp2_with fail
 go_ret
 exact ⟨rfl, hbe⟩
end Go.Proofs.YtddnnjblpgfjeaaGreatDoor
namespace Go.Proofs.YtddnnjblpgfjeaaGreatDoor
open Go.RowKit

def S_a : ByteArray := ⟨#[97]⟩
def S_b : ByteArray := ⟨#[98]⟩
def ZZd : AsD := ⟨⟨#[122, 122]⟩, ⟨#[103, 107]⟩, 6⟩
theorem ZZ_small : SmallA ZZd := by unfold SmallA ZZd; exact ⟨by decide, by decide, by decide, by decide⟩
theorem Below.grownB {w w' w2 : World} {B : Nat} (h : Below w.heap.size w w') (hB : w.heap.size ≤ B) (hg : w'.grownBy w2 (some B)) : Below w.heap.size w w2 := h.grown hg h.size (fun r hr => by cases hr; exact hB)
theorem digs {w W : World} (hD : DigB w) (hb : Below w.heap.size w W) {B : Nat} (hB : w.heap.size ≤ B) : ∀ w', W.grownBy w' (some B) → DigB w' := fun w' hg w2 hb2 => hD w2 (below_step (Below.grownB hb hB hg) hb2)
theorem sortL_len (ks : List ByteArray) : (sortL ks).length = ks.length := by unfold sortL; rw [List.length_map, List.length_mergeSort, List.length_map]
theorem names_small (xs : List AsD) (ps : List PlD) (h : xs.length ≤ 12) (hp : ps.length ≤ 12) : (sortL (namesA (fieldR xs ps))).length ≤ 1000000 := by
 rw [sortL_len]
 unfold namesA
 rw [List.length_map]
 have h1 := fieldR_len xs ps
 have h2 : ps.length * xs.length ≤ 12 * 12 := Nat.mul_le_mul hp h
 omega
set_option maxRecDepth 100000 in
set_option maxHeartbeats 8000000 in
theorem teams_law (lv : Value) (w : World) (hl : Tape w lv) (hD : DigB w) : Calls Tryz.prog 5 #[lv] w (BoolIs true w) := by
 have hs1 := hl.stm 25
 obtain ⟨la, ln, lc, rfl⟩ := hl.shape
 have HD := Lib.hid hD
 clear hl hD
 go_enter Tryz.func5, Tryz.ntmps5
 go_wp2_with fail
 have hb1 := below_alloc w (.cells #[.slice la ln lc, .int .i64 0] 25)
 refine (assetList_calls w.heap.size 0 S_a _ hs1 (by omega) (by decide) (digs HD.out hb1 (Nat.le_refl _))).mono ?_
 rintro e w2 ⟨va, ⟨xs, hA, hxl, hxs⟩, rfl, hs2, hg2⟩
 have hb2 := Below.grownB hb1 (Nat.le_refl _) hg2
 have hlo1 : w.heap.size < (w.alloc (.cells #[.slice la ln lc, .int .i64 0] 25)).heap.size := by simp
 have Hxs := Lib.hid hxs
 obtain ⟨a, c, rfl⟩ := as_shape hA
 clear hs1 hg2 hxs hb1
 generalize (w.alloc (.cells #[.slice la ln lc, .int .i64 0] 25)).heap.size = lo1 at hA hlo1
 go_wp2_with fail
 refine (placeList_calls w.heap.size _ w2 hs2 (by omega)).mono ?_
 rintro e w3 ⟨vp, ⟨ps, hP, hpl, hps⟩, rfl, hs3, hg3⟩
 have hlo2 := hs2.lt
 have hb3 := Below.grownB hb2 (Nat.le_refl _) hg3
 have hA3 := Ass.other hA hg3 hlo1
 have Hps := Lib.hid hps
 obtain ⟨pa, pc, rfl⟩ := pl_shape hP
 clear hs2 hg3 hps hA hb2
 generalize w2.heap.size = lo2 at hP hlo2
 go_wp2_with fail
 have hb3a := below_step hb3 (below_alloc w3 (.cells ([S_b, S_a].map Value.string).toArray 9))
 refine (some_calls w.heap.size _ w3.heap.size _ [S_b, S_a] _ (hs3.alloc _) (by omega) (strs_new w3 [S_b, S_a] (by decide)) hs3.lt (by simp)).mono ?_
 rintro e w4 ⟨v, ⟨k, rfl, hk⟩, rfl, hs4, hg4⟩
 have hkl : k.size ≤ 100 := by
  rcases List.mem_cons.1 hk with rfl | hk
  ·decide
  ·rw [List.mem_singleton.1 hk]; decide
 have hb4 := Below.grownB hb3a (Nat.le_refl _) hg4
 have hA4 := Ass.other (hA3.below (below_alloc w3 (.cells ([S_b, S_a].map Value.string).toArray 9))) hg4 hlo1
 have hP4 := Pls.other (hP.below (below_alloc w3 (.cells ([S_b, S_a].map Value.string).toArray 9))) hg4 hlo2
 clear hs3 hg4 hA3 hP hb3 hb3a hk
 go_wp2_with fail
 refine (assetList_calls w.heap.size _ k w4 hs4 (by omega) hkl (digs HD.out hb4 (Nat.le_refl _))).mono ?_
 rintro e w5 ⟨vm, ⟨ms, hM, hml, hms⟩, rfl, hs5, hg5⟩
 have hlo4 := hs4.lt
 have hb5 := Below.grownB hb4 (Nat.le_refl _) hg5
 have hA5 := Ass.other hA4 hg5 hlo1
 have hP5 := Pls.other hP4 hg5 hlo2
 have HMat := Lib.hid (as_at hM)
 obtain ⟨ma, mc, rfl⟩ := as_shape hM
 obtain ⟨mn, hmn⟩ : ∃ mn, ms.length = mn := ⟨_, rfl⟩
 have Hmn := Lib.hid hmn
 have Hms := Lib.hid hms
 rw [hmn] at HMat ⊢
 clear hs4 hs5 hg5 hA4 hP4 hM hms hmn hb4 hlo4
 have hbx := below_alloc w5 (.cells #[.string ⟨#[122, 122]⟩, .string ⟨#[103, 107]⟩, .int .i64 6] 78)
 have hx0 : (w5.alloc (.cells #[.string ⟨#[122, 122]⟩, .string ⟨#[103, 107]⟩, .int .i64 6] 78)).heap[w5.heap.size]? = some (.cells #[.string ZZd.player, .string ZZd.pos, .int .i64 ZZd.value] 78 (0, 0)) := heap_alloc_new w5 _
 by_cases hm0 : mn = 0
 ·subst hm0
  go_upto_region 6 with fail
  obtain ⟨W, hW⟩ : ∃ W, W = w5.alloc (.cells #[.string ⟨#[122, 122]⟩, .string ⟨#[103, 107]⟩, .int .i64 6] 78) := ⟨_, rfl⟩
  have hX : W.heap[w5.heap.size]? = some (.cells #[.string ZZd.player, .string ZZd.pos, .int .i64 ZZd.value] 78 (0, 0)) := by rw [hW]; exact heap_alloc_new w5 _
  have hsx := ZZ_small; generalize ZZd = x at hX hsx
  have h5W : Below w5.heap.size w5 W := by rw [hW]; exact below_alloc w5 _
  obtain ⟨X7, hX7⟩ : ∃ X7, X7 = w5.heap.size := ⟨_, rfl⟩
  rw [← hX7] at hX
  rw [← hW, ← hX7]; have hAW := hA5.below h5W; have hPW := hP5.below h5W; have hbW := below_step hb5 h5W; have HX := Lib.hid hX; clear hW hX7 hX h5W hA5 hP5 hb5 hbx hx0; have HA26 := Lib.hid (asFault_calls lo1 _ xs W hAW Hxs.out (by omega))
  have HP27 := Lib.hid (fun w' (hb : Below W.heap.size W w') => plFault_calls lo2 _ ps w' (hPW.below hb) Hps.out (by omega))
  have HB45 := Lib.hid (fun w' (hb : Below W.heap.size W w') => bringsFault_calls lo1 _ xs x w' (hAW.below hb) (by omega) hsx)
  have HFw := Lib.hid (fun (h : teamE xs ps ≠ 0) w' (hb : Below W.heap.size W w') => fieldedF_wrong lo1 lo2 _ _ xs ps w' (hAW.below hb) Hxs.out (by omega) (hPW.below hb) Hps.out (by omega) h)
  have HFt := Lib.hid (fun (h : teamE xs ps = 0) w' (hb : Below W.heap.size W w') => fielded_tell lo1 lo2 _ _ xs ps w' (hAW.below hb) Hxs.out (by omega) (hPW.below hb) Hps.out h)
  have HBt := Lib.hid (fun w' (hb : Below W.heap.size W w') => brings_tell lo1 lo2 _ _ xs ps x w' (hAW.below hb) Hxs.out (by omega) (hPW.below hb) Hps.out (by omega) hsx)
  have HDw := Lib.hid (fun (h : teamE xs ps ≠ 0) w' (hb : Below W.heap.size W w') => drop_wrong lo1 lo2 _ _ xs ps w' (hAW.below hb) Hxs.out (by omega) (hPW.below hb) Hps.out (by omega) h)
  have HDt := Lib.hid (fun (h : teamE xs ps = 0) w' (hb : Below W.heap.size W w') => drop_tell lo1 lo2 _ _ xs ps w' (hAW.below hb) Hxs.out (by omega) (hPW.below hb) Hps.out h)
  have HB46 := Lib.hid (fun (h : brE xs ps x = 0) w' (hb : Below W.heap.size W w') => bringsOf_tell lo1 lo2 _ _ xs ps x w' (hAW.below hb) (by omega) (hPW.below hb) h)
  have HF47 := Lib.hid (fun (h : teamE xs ps = 0) w' (hb : Below W.heap.size W w') => fieldedOf_calls lo1 lo2 _ _ xs ps w' (hAW.below hb) (hPW.below hb) (rise_of h) (by omega) (fit_of h) (smallP_of h).2.1 (smallP_of h).1)
  have HD48 := Lib.hid (fun (h : teamE xs ps = 0) w' (hb : Below W.heap.size W w') => dropOf_calls lo1 lo2 _ _ xs ps w' (hAW.below hb) (hPW.below hb) (rise_of h) (by omega) (fit_of h) (smallP_of h).2.1 (smallP_of h).1)
  change Hid (∀ (h : teamE xs ps = 0) w' (hb : Below W.heap.size W w'), Calls Tryz.prog 48 #[.slice a xs.length c, .slice pa ps.length pc] w' fun e w'' => e = .returned (.string (bestD xs ps)) ∧ Below w'.heap.size w' w'') at HD48
  have HbE := Lib.hid (brE_eq (xs := xs) (ps := ps) (x := x)); have HT := Lib.hid (show teamE xs ps = firstE [chkA xs, chkP ps] from rfl)
  skip
  have HV0 := Lib.hid (show brE xs ps x ≠ 0 → brV xs ps x = 0 from fun h => by unfold brV; rw [if_neg h])
  generalize brV xs ps x = V0 at HBt HB46 HV0
  generalize brE xs ps x = E0 at HBt HB46 HbE HV0
  generalize teamE xs ps = T0 at HFw HFt HDw HDt HF47 HD48 HbE HT
  generalize chkA xs = A0' at HA26 HT
  generalize chkP ps = P0' at HP27 HT
  generalize moreE xs x = M0 at HB45 HbE
  generalize sumV (fieldR xs ps) = S0 at HFt HF47
  generalize bestD xs ps = BB at HDt HD48
  have Hnl := Lib.hid (names_small xs ps (by omega) (by omega))
  generalize sortL (namesA (fieldR xs ps)) = KS at HFt HF47 Hnl
  generalize xs.length = n at *
  generalize ps.length = np at *
  clear hAW hPW hsx; go_wp2_with fail
  refine HA26.out.mono ?_; rintro e w7 ⟨rfl, hb7⟩; clear HA26; go_wp2_with fail
  refine (HP27.out w7 hb7).mono ?_; rintro e w8 ⟨rfl, hb8⟩; have hb08 := below_step hb7 hb8; clear HP27 hb7 hb8; go_wp2_with fail
  refine (orE_calls _ 0 2 [A0', P0'] _ (by simp) (by exact nums2 _ _ _ _)).mono ?_
  rintro e w9 ⟨rfl, rfl⟩; rw [← HT.out]; obtain ⟨w9, hw9⟩ : ∃ w9, w9 = w8.alloc (.cells #[.int .i64 A0', .int .i64 P0'] 34) := ⟨_, rfl⟩
  have hb9 : Below W.heap.size W w9 := by rw [hw9]; exact below_step hb08 (below_alloc w8 _)
  go_upto_region 7 with fail
  rw [← hw9]; clear hw9 hb08 HT; by_cases hT : T0 = 0
  ·have hT' := hT
   subst hT; have e0 : ((0 : Int) != 0) = false := rfl
   go_wp2_with fail
   refine (HFt.out (by trivial) w9 hb9).mono ?_
   rintro e w10 ⟨vk, rfl, hownK, hbk⟩; have hb10 := below_step hb9 hbk; have HK := Lib.hid (strs_of_owns hownK Hnl.out); obtain ⟨ka, kc, rfl⟩ := strs_shape HK.out; clear hownK hbk HFt HFw HDw; have hX10 := cells_later HX.out hb10; have x0 := cell_at hX10 0 rfl; have x1 := cell_at hX10 1 rfl; have x2 := cell_at hX10 2 rfl; go_wp2_with fail
   refine (HBt.out w10 hb10).mono ?_; rintro e w11 ⟨rfl, hbk⟩; have hb11 := below_step hb10 hbk; replace HK := Lib.hid (HK.out.below hbk); clear HBt hbk x0 x1 x2 hX10; go_wp2_with fail
   refine (HDt.out (by trivial) w11 hb11).mono ?_
   rintro e w12 ⟨rfl, hbk⟩; have hb12 := below_step hb11 hbk; replace HK := Lib.hid (HK.out.below hbk); clear HDt hbk hb10 hb11; have hX12 := cells_later HX.out hb12; have x0 := cell_at hX12 0 rfl; have x1 := cell_at hX12 1 rfl; have x2 := cell_at hX12 2 rfl; go_wp2_with fail
   refine (HB45.out w12 hb12).mono ?_; rintro e w13 ⟨rfl, hbk⟩; have hb13 := below_step hb12 hbk; replace HK := Lib.hid (HK.out.below hbk); clear HB45 hbk hb12 x0 x1 x2 hX12; go_wp2_with fail
   refine (orE_calls _ 0 2 [0, M0] _ (by simp) (by exact nums2 _ _ _ _)).mono ?_
   rintro e w14 ⟨rfl, rfl⟩; rw [← HbE.out]; obtain ⟨w14, hw14⟩ : ∃ w14, w14 = w13.alloc (.cells #[.int .i64 0, .int .i64 M0] 34) := ⟨_, rfl⟩
   have hbk : Below w13.heap.size w13 w14 := by rw [hw14]; exact below_alloc w13 _
   have hb14 := below_step hb13 hbk; replace HK := Lib.hid (HK.out.below hbk); go_upto_region 11 with fail
   rw [← hw14]; clear hw14 HbE hbk hb13; by_cases hE : E0 = 0
   ·subst hE
    have hX14 := cells_later HX.out hb14; have x0 := cell_at hX14 0 rfl; have x1 := cell_at hX14 1 rfl; have x2 := cell_at hX14 2 rfl; go_wp2_with fail
    refine (HB46.out (by trivial) w14 hb14).mono ?_
    rintro e w15 ⟨rfl, hbk⟩; have HBQ := below_step hb14 hbk; replace HK := Lib.hid (HK.out.below hbk); clear HB46 hbk hb14 x0 x1 x2 hX14; go_wp2_with fail
    refine (HF47.out (by trivial) _ HBQ).mono ?_
    rintro e w16 ⟨vj, rfl, hownJ, hbk⟩; have hb16 := below_step HBQ hbk; have HJ := Lib.hid (strs_of_owns hownJ Hnl.out); replace HK := Lib.hid (HK.out.below hbk); obtain ⟨ja, jc, rfl⟩ := strs_shape HJ.out; clear HF47 hownJ hbk HBQ; go_wp2_with fail
    refine (HD48.out (by trivial) w16 hb16).mono ?_
    rintro e w17 ⟨rfl, hbk⟩; have hb17 := below_step hb16 hbk; have HE := Lib.hid (equal_calls _ _ _ _ KS KS w17 (HK.out.below hbk) (HJ.out.below hbk) Hnl.out Hnl.out); rw [decide_eq_true rfl] at HE
    clear HD48 hbk hb16 HK HJ; go_wp2_with fail
    refine HE.out.mono ?_; rintro e w18 ⟨rfl, hbk⟩; have hb18 := below_step hb17 hbk; have HV := Lib.hid (valued_calls w18); clear HE hbk hb17; go_wp2_with fail
    refine HV.out.mono ?_; rintro e w19 ⟨rfl, hbk⟩; have hbe := below_step hbW (below_step hb18 hbk); go_wp2_with fail
    go_ret
    exact ⟨rfl, hbe⟩
   ·have e3 : (E0 == 0) = false := by simp [hE]
    obtain rfl : V0 = 0 := HV0.out hE
    have HBQ := hb14; go_wp2_with fail
    refine (HF47.out (by trivial) _ HBQ).mono ?_
    rintro e w16 ⟨vj, rfl, hownJ, hbk⟩; have hb16 := below_step HBQ hbk; have HJ := Lib.hid (strs_of_owns hownJ Hnl.out); replace HK := Lib.hid (HK.out.below hbk); obtain ⟨ja, jc, rfl⟩ := strs_shape HJ.out; clear HF47 hownJ hbk HBQ; go_wp2_with fail
    refine (HD48.out (by trivial) w16 hb16).mono ?_
    rintro e w17 ⟨rfl, hbk⟩; have hb17 := below_step hb16 hbk; have HE := Lib.hid (equal_calls _ _ _ _ KS KS w17 (HK.out.below hbk) (HJ.out.below hbk) Hnl.out Hnl.out); rw [decide_eq_true rfl] at HE
    clear HD48 hbk hb16 HK HJ; go_wp2_with fail
    refine HE.out.mono ?_; rintro e w18 ⟨rfl, hbk⟩; have hb18 := below_step hb17 hbk; have HV := Lib.hid (valued_calls w18); clear HE hbk hb17; go_wp2_with fail
    refine HV.out.mono ?_; rintro e w19 ⟨rfl, hbk⟩; have hbe := below_step hbW (below_step hb18 hbk); go_wp2_with fail
    go_ret
    exact ⟨rfl, hbe⟩
  ·have hE0 := HbE.out
   rw [then_first, if_neg hT] at hE0
   obtain rfl : V0 = 0 := HV0.out (by rw [hE0]; exact hT)
   subst hE0; have e0 : (E0 != 0) = true := by simp [hT]
   have e3 : (E0 == 0) = false := by simp [hT]
   go_wp2_with fail
   refine (HFw.out hT w9 hb9).mono ?_; rintro e w10 ⟨rfl, hbk⟩; have hb10 := below_step hb9 hbk; clear hbk HFt HFw HDt; have hX10 := cells_later HX.out hb10; have x0 := cell_at hX10 0 rfl; have x1 := cell_at hX10 1 rfl; have x2 := cell_at hX10 2 rfl; go_wp2_with fail
   refine (HBt.out w10 hb10).mono ?_; rintro e w11 ⟨rfl, hbk⟩; have hb11 := below_step hb10 hbk; clear HBt hbk x0 x1 x2 hX10; go_wp2_with fail
   refine (HDw.out hT w11 hb11).mono ?_; rintro e w12 ⟨rfl, hbk⟩; have hb12 := below_step hb11 hbk; clear HDw hbk hb10 hb11; have hX12 := cells_later HX.out hb12; have x0 := cell_at hX12 0 rfl; have x1 := cell_at hX12 1 rfl; have x2 := cell_at hX12 2 rfl; go_wp2_with fail
   refine (HB45.out w12 hb12).mono ?_; rintro e w13 ⟨rfl, hbk⟩; have hb13 := below_step hb12 hbk; clear HB45 hbk hb12 x0 x1 x2 hX12; go_wp2_with fail
   refine (orE_calls _ 0 2 [E0, M0] _ (by simp) (by exact nums2 _ _ _ _)).mono ?_
   rintro e w14 ⟨rfl, rfl⟩; rw [← HbE.out]; obtain ⟨w14, hw14⟩ : ∃ w14, w14 = w13.alloc (.cells #[.int .i64 E0, .int .i64 M0] 34) := ⟨_, rfl⟩
   have hbk : Below w13.heap.size w13 w14 := by rw [hw14]; exact below_alloc w13 _
   have hb14 := below_step hb13 hbk; go_upto_region 11 with fail
   rw [← hw14]; clear hw14 HbE hbk hb13; have HV := Lib.hid (valued_calls w14); go_wp2_with fail
   refine HV.out.mono ?_; rintro e w19 ⟨rfl, hbk⟩; have hbe := below_step hbW (below_step hb14 hbk); go_wp2_with fail
   go_ret
   exact ⟨rfl, hbe⟩
 ·obtain ⟨m0, hm0'⟩ : ∃ m0, ms[0]? = some m0 := ⟨_, List.getElem?_eq_getElem (by rw [Hmn.out]; omega)⟩
  have hpos : (0 : Int) < (mn : Int) := by omega
  rcases HMat.out with ⟨_, h⟩ | ⟨g, off, cap, e, _, hgl, _, hcell⟩
  ·rw [h] at hm0'; simp at hm0'
  simp only [Value.slice.injEq] at e
  obtain ⟨rfl, -, rfl⟩ := e; obtain ⟨q0, q1, q2⟩ := hcell 0 m0 hm0'; have p0 := below_cell hbx q0; have p1 := below_cell hbx q1; have p2 := below_cell hbx q2; have hsm := Hms.out m0 (List.mem_of_getElem? hm0'); clear hcell q0 q1 q2 hm0' hm0; simp only [Nat.zero_mul, Nat.add_zero] at p0 p1 p2
  go_upto_region 6 with fail
  obtain ⟨W, hW⟩ : ∃ W, W = w5.alloc (.cells #[.string m0.player, .string m0.pos, .int .i64 m0.value] 78) := ⟨_, rfl⟩
  have hX : W.heap[w5.heap.size]? = some (.cells #[.string m0.player, .string m0.pos, .int .i64 m0.value] 78 (0, 0)) := by rw [hW]; exact heap_alloc_new w5 _
  have hsx := hsm; clear hsm p0 p1 p2; rename AsD => x
  have h5W : Below w5.heap.size w5 W := by rw [hW]; exact below_alloc w5 _
  obtain ⟨X7, hX7⟩ : ∃ X7, X7 = w5.heap.size := ⟨_, rfl⟩
  rw [← hX7] at hX
  rw [← hW, ← hX7]; have hAW := hA5.below h5W; have hPW := hP5.below h5W; have hbW := below_step hb5 h5W; have HX := Lib.hid hX; clear hW hX7 hX h5W hA5 hP5 hb5 hbx hx0; have HA26 := Lib.hid (asFault_calls lo1 _ xs W hAW Hxs.out (by omega))
  have HP27 := Lib.hid (fun w' (hb : Below W.heap.size W w') => plFault_calls lo2 _ ps w' (hPW.below hb) Hps.out (by omega))
  have HB45 := Lib.hid (fun w' (hb : Below W.heap.size W w') => bringsFault_calls lo1 _ xs x w' (hAW.below hb) (by omega) hsx)
  have HFw := Lib.hid (fun (h : teamE xs ps ≠ 0) w' (hb : Below W.heap.size W w') => fieldedF_wrong lo1 lo2 _ _ xs ps w' (hAW.below hb) Hxs.out (by omega) (hPW.below hb) Hps.out (by omega) h)
  have HFt := Lib.hid (fun (h : teamE xs ps = 0) w' (hb : Below W.heap.size W w') => fielded_tell lo1 lo2 _ _ xs ps w' (hAW.below hb) Hxs.out (by omega) (hPW.below hb) Hps.out h)
  have HBt := Lib.hid (fun w' (hb : Below W.heap.size W w') => brings_tell lo1 lo2 _ _ xs ps x w' (hAW.below hb) Hxs.out (by omega) (hPW.below hb) Hps.out (by omega) hsx)
  have HDw := Lib.hid (fun (h : teamE xs ps ≠ 0) w' (hb : Below W.heap.size W w') => drop_wrong lo1 lo2 _ _ xs ps w' (hAW.below hb) Hxs.out (by omega) (hPW.below hb) Hps.out (by omega) h)
  have HDt := Lib.hid (fun (h : teamE xs ps = 0) w' (hb : Below W.heap.size W w') => drop_tell lo1 lo2 _ _ xs ps w' (hAW.below hb) Hxs.out (by omega) (hPW.below hb) Hps.out h)
  have HB46 := Lib.hid (fun (h : brE xs ps x = 0) w' (hb : Below W.heap.size W w') => bringsOf_tell lo1 lo2 _ _ xs ps x w' (hAW.below hb) (by omega) (hPW.below hb) h)
  have HF47 := Lib.hid (fun (h : teamE xs ps = 0) w' (hb : Below W.heap.size W w') => fieldedOf_calls lo1 lo2 _ _ xs ps w' (hAW.below hb) (hPW.below hb) (rise_of h) (by omega) (fit_of h) (smallP_of h).2.1 (smallP_of h).1)
  have HD48 := Lib.hid (fun (h : teamE xs ps = 0) w' (hb : Below W.heap.size W w') => dropOf_calls lo1 lo2 _ _ xs ps w' (hAW.below hb) (hPW.below hb) (rise_of h) (by omega) (fit_of h) (smallP_of h).2.1 (smallP_of h).1)
  change Hid (∀ (h : teamE xs ps = 0) w' (hb : Below W.heap.size W w'), Calls Tryz.prog 48 #[.slice a xs.length c, .slice pa ps.length pc] w' fun e w'' => e = .returned (.string (bestD xs ps)) ∧ Below w'.heap.size w' w'') at HD48
  have HbE := Lib.hid (brE_eq (xs := xs) (ps := ps) (x := x)); have HT := Lib.hid (show teamE xs ps = firstE [chkA xs, chkP ps] from rfl)
  skip
  have HV0 := Lib.hid (show brE xs ps x ≠ 0 → brV xs ps x = 0 from fun h => by unfold brV; rw [if_neg h])
  generalize brV xs ps x = V0 at HBt HB46 HV0
  generalize brE xs ps x = E0 at HBt HB46 HbE HV0
  generalize teamE xs ps = T0 at HFw HFt HDw HDt HF47 HD48 HbE HT
  generalize chkA xs = A0' at HA26 HT
  generalize chkP ps = P0' at HP27 HT
  generalize moreE xs x = M0 at HB45 HbE
  generalize sumV (fieldR xs ps) = S0 at HFt HF47
  generalize bestD xs ps = BB at HDt HD48
  have Hnl := Lib.hid (names_small xs ps (by omega) (by omega))
  generalize sortL (namesA (fieldR xs ps)) = KS at HFt HF47 Hnl
  generalize xs.length = n at *
  generalize ps.length = np at *
  clear hAW hPW hsx; go_wp2_with fail
  refine HA26.out.mono ?_; rintro e w7 ⟨rfl, hb7⟩; clear HA26; go_wp2_with fail
  refine (HP27.out w7 hb7).mono ?_; rintro e w8 ⟨rfl, hb8⟩; have hb08 := below_step hb7 hb8; clear HP27 hb7 hb8; go_wp2_with fail
  refine (orE_calls _ 0 2 [A0', P0'] _ (by simp) (by exact nums2 _ _ _ _)).mono ?_
  rintro e w9 ⟨rfl, rfl⟩; rw [← HT.out]; obtain ⟨w9, hw9⟩ : ∃ w9, w9 = w8.alloc (.cells #[.int .i64 A0', .int .i64 P0'] 34) := ⟨_, rfl⟩
  have hb9 : Below W.heap.size W w9 := by rw [hw9]; exact below_step hb08 (below_alloc w8 _)
  go_upto_region 7 with fail
  rw [← hw9]; clear hw9 hb08 HT; by_cases hT : T0 = 0
  ·have hT' := hT
   subst hT; have e0 : ((0 : Int) != 0) = false := rfl
   go_wp2_with fail
   refine (HFt.out (by trivial) w9 hb9).mono ?_
   rintro e w10 ⟨vk, rfl, hownK, hbk⟩; have hb10 := below_step hb9 hbk; have HK := Lib.hid (strs_of_owns hownK Hnl.out); obtain ⟨ka, kc, rfl⟩ := strs_shape HK.out; clear hownK hbk HFt HFw HDw; have hX10 := cells_later HX.out hb10; have x0 := cell_at hX10 0 rfl; have x1 := cell_at hX10 1 rfl; have x2 := cell_at hX10 2 rfl; go_wp2_with fail
   refine (HBt.out w10 hb10).mono ?_; rintro e w11 ⟨rfl, hbk⟩; have hb11 := below_step hb10 hbk; replace HK := Lib.hid (HK.out.below hbk); clear HBt hbk x0 x1 x2 hX10; go_wp2_with fail
   refine (HDt.out (by trivial) w11 hb11).mono ?_
   rintro e w12 ⟨rfl, hbk⟩; have hb12 := below_step hb11 hbk; replace HK := Lib.hid (HK.out.below hbk); clear HDt hbk hb10 hb11; have hX12 := cells_later HX.out hb12; have x0 := cell_at hX12 0 rfl; have x1 := cell_at hX12 1 rfl; have x2 := cell_at hX12 2 rfl; go_wp2_with fail
   refine (HB45.out w12 hb12).mono ?_; rintro e w13 ⟨rfl, hbk⟩; have hb13 := below_step hb12 hbk; replace HK := Lib.hid (HK.out.below hbk); clear HB45 hbk hb12 x0 x1 x2 hX12; go_wp2_with fail
   refine (orE_calls _ 0 2 [0, M0] _ (by simp) (by exact nums2 _ _ _ _)).mono ?_
   rintro e w14 ⟨rfl, rfl⟩; rw [← HbE.out]; obtain ⟨w14, hw14⟩ : ∃ w14, w14 = w13.alloc (.cells #[.int .i64 0, .int .i64 M0] 34) := ⟨_, rfl⟩
   have hbk : Below w13.heap.size w13 w14 := by rw [hw14]; exact below_alloc w13 _
   have hb14 := below_step hb13 hbk; replace HK := Lib.hid (HK.out.below hbk); go_upto_region 11 with fail
   rw [← hw14]; clear hw14 HbE hbk hb13; by_cases hE : E0 = 0
   ·subst hE
    have hX14 := cells_later HX.out hb14; have x0 := cell_at hX14 0 rfl; have x1 := cell_at hX14 1 rfl; have x2 := cell_at hX14 2 rfl; go_wp2_with fail
    refine (HB46.out (by trivial) w14 hb14).mono ?_
    rintro e w15 ⟨rfl, hbk⟩; have HBQ := below_step hb14 hbk; replace HK := Lib.hid (HK.out.below hbk); clear HB46 hbk hb14 x0 x1 x2 hX14; go_wp2_with fail
    refine (HF47.out (by trivial) _ HBQ).mono ?_
    rintro e w16 ⟨vj, rfl, hownJ, hbk⟩; have hb16 := below_step HBQ hbk; have HJ := Lib.hid (strs_of_owns hownJ Hnl.out); replace HK := Lib.hid (HK.out.below hbk); obtain ⟨ja, jc, rfl⟩ := strs_shape HJ.out; clear HF47 hownJ hbk HBQ; go_wp2_with fail
    refine (HD48.out (by trivial) w16 hb16).mono ?_
    rintro e w17 ⟨rfl, hbk⟩; have hb17 := below_step hb16 hbk; have HE := Lib.hid (equal_calls _ _ _ _ KS KS w17 (HK.out.below hbk) (HJ.out.below hbk) Hnl.out Hnl.out); rw [decide_eq_true rfl] at HE
    clear HD48 hbk hb16 HK HJ; go_wp2_with fail
    refine HE.out.mono ?_; rintro e w18 ⟨rfl, hbk⟩; have hb18 := below_step hb17 hbk; have HV := Lib.hid (valued_calls w18); clear HE hbk hb17; go_wp2_with fail
    refine HV.out.mono ?_; rintro e w19 ⟨rfl, hbk⟩; have hbe := below_step hbW (below_step hb18 hbk); go_wp2_with fail
    go_ret
    exact ⟨rfl, hbe⟩
   ·have e3 : (E0 == 0) = false := by simp [hE]
    obtain rfl : V0 = 0 := HV0.out hE
    have HBQ := hb14; go_wp2_with fail
    refine (HF47.out (by trivial) _ HBQ).mono ?_
    rintro e w16 ⟨vj, rfl, hownJ, hbk⟩; have hb16 := below_step HBQ hbk; have HJ := Lib.hid (strs_of_owns hownJ Hnl.out); replace HK := Lib.hid (HK.out.below hbk); obtain ⟨ja, jc, rfl⟩ := strs_shape HJ.out; clear HF47 hownJ hbk HBQ; go_wp2_with fail
    refine (HD48.out (by trivial) w16 hb16).mono ?_
    rintro e w17 ⟨rfl, hbk⟩; have hb17 := below_step hb16 hbk; have HE := Lib.hid (equal_calls _ _ _ _ KS KS w17 (HK.out.below hbk) (HJ.out.below hbk) Hnl.out Hnl.out); rw [decide_eq_true rfl] at HE
    clear HD48 hbk hb16 HK HJ; go_wp2_with fail
    refine HE.out.mono ?_; rintro e w18 ⟨rfl, hbk⟩; have hb18 := below_step hb17 hbk; have HV := Lib.hid (valued_calls w18); clear HE hbk hb17; go_wp2_with fail
    refine HV.out.mono ?_; rintro e w19 ⟨rfl, hbk⟩; have hbe := below_step hbW (below_step hb18 hbk); go_wp2_with fail
    go_ret
    exact ⟨rfl, hbe⟩
  ·have hE0 := HbE.out
   rw [then_first, if_neg hT] at hE0
   obtain rfl : V0 = 0 := HV0.out (by rw [hE0]; exact hT)
   subst hE0; have e0 : (E0 != 0) = true := by simp [hT]
   have e3 : (E0 == 0) = false := by simp [hT]
   go_wp2_with fail
   refine (HFw.out hT w9 hb9).mono ?_; rintro e w10 ⟨rfl, hbk⟩; have hb10 := below_step hb9 hbk; clear hbk HFt HFw HDt; have hX10 := cells_later HX.out hb10; have x0 := cell_at hX10 0 rfl; have x1 := cell_at hX10 1 rfl; have x2 := cell_at hX10 2 rfl; go_wp2_with fail
   refine (HBt.out w10 hb10).mono ?_; rintro e w11 ⟨rfl, hbk⟩; have hb11 := below_step hb10 hbk; clear HBt hbk x0 x1 x2 hX10; go_wp2_with fail
   refine (HDw.out hT w11 hb11).mono ?_; rintro e w12 ⟨rfl, hbk⟩; have hb12 := below_step hb11 hbk; clear HDw hbk hb10 hb11; have hX12 := cells_later HX.out hb12; have x0 := cell_at hX12 0 rfl; have x1 := cell_at hX12 1 rfl; have x2 := cell_at hX12 2 rfl; go_wp2_with fail
   refine (HB45.out w12 hb12).mono ?_; rintro e w13 ⟨rfl, hbk⟩; have hb13 := below_step hb12 hbk; clear HB45 hbk hb12 x0 x1 x2 hX12; go_wp2_with fail
   refine (orE_calls _ 0 2 [E0, M0] _ (by simp) (by exact nums2 _ _ _ _)).mono ?_
   rintro e w14 ⟨rfl, rfl⟩; rw [← HbE.out]; obtain ⟨w14, hw14⟩ : ∃ w14, w14 = w13.alloc (.cells #[.int .i64 E0, .int .i64 M0] 34) := ⟨_, rfl⟩
   have hbk : Below w13.heap.size w13 w14 := by rw [hw14]; exact below_alloc w13 _
   have hb14 := below_step hb13 hbk; go_upto_region 11 with fail
   rw [← hw14]; clear hw14 HbE hbk hb13; have HV := Lib.hid (valued_calls w14); go_wp2_with fail
   refine HV.out.mono ?_; rintro e w19 ⟨rfl, hbk⟩; have hbe := below_step hbW (below_step hb14 hbk); go_wp2_with fail
   go_ret
   exact ⟨rfl, hbe⟩
end Go.Proofs.YtddnnjblpgfjeaaGreatDoor
