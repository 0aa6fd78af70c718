/- The reference's StateOf, FirstOf and MomentFault. The reference's FirstOf. First. -/
import Derived.Test.YtiedmbgdmafhaaaGreatDoorHb
import Derived.Test.YtiedmbgdmafhaaaGreatDoorFxk
import Derived.Test.YtiedmbgdmafhaaaGreatDoorFc
import Derived.Test.YtiedmbgdmafhaaaGreatDoorBj
import Derived.Test.YtiedmbgdmafhaaaGreatDoorBh
namespace Go.Proofs.YtiedmbgdmafhaaaGreatDoor
open Go.RowKit

def inH (who : ByteArray) (week : Int) (h : HD) : Bool := beqS h.player who && (decide (h.start ≤ week) && decide (week < h.stop))
/-- How a player is: the first one that fits. -/
def stateO (hs : List HD) (who : ByteArray) (week : Int) : Int := ((hs.find? (inH who week)).map HD.kind).getD 0
theorem stateO_hit {hs : List HD} {who : ByteArray} {week : Int} {k : Nat} {h : HD} (hk : hs[k]? = some h) (h0 : ∀ (i : Nat) (x : HD), i < k → hs[i]? = some x → inH who week x = false) (hh : inH who week h = true) : stateO hs who week = h.kind := by
  unfold stateO
  have : hs.find? (inH who week) = some h := by
    rw [List.find?_eq_some_iff_getElem]
    have hlt := (List.getElem?_eq_some_iff.1 hk).1
    refine ⟨hh, k, hlt, (List.getElem?_eq_some_iff.1 hk).2, fun j hj => ?_⟩
    rw [h0 j _ hj (List.getElem?_eq_getElem (show j < hs.length by omega))]; rfl
  rw [this]; rfl
theorem stateO_none {hs : List HD} {who : ByteArray} {week : Int} (h0 : ∀ (i : Nat) (x : HD), i < hs.length → hs[i]? = some x → inH who week x = false) : stateO hs who week = 0 := by
  unfold stateO
  have : hs.find? (inH who week) = none := by
    rw [List.find?_eq_none]
    intro x hx
    obtain ⟨i, hi⟩ := List.getElem?_of_mem hx
    rw [h0 i x (List.getElem?_eq_some_iff.1 hi).1 hi]; simp
  rw [this]; rfl
set_option maxRecDepth 100000 in
set_option maxHeartbeats 4000000 in
theorem stateOf_calls (lo : Nat) (v : Value) (hs : List HD) (who : ByteArray) (week : Int) (w : World) (hH : Hds w lo v hs) (hn : hs.length ≤ 1000000) :
    Calls Tryz.prog 36 #[v, .string who, .int .i64 week] w (IntBelow (stateO hs who week) w) := by
  have HX := Lib.hid (show ∀ (k : Nat) (h : HD), hs[k]? = some h → (∀ (i : Nat) (x : HD), i < k → hs[i]? = some x → inH who week x = false) → inH who week h = true → stateO hs who week = h.kind from fun k h => stateO_hit)
  have HY := Lib.hid (show (∀ (i : Nat) (x : HD), i < hs.length → hs[i]? = some x → inH who week x = false) → stateO hs who week = 0 from stateO_none)
  generalize stateO hs who week = R at HX HY ⊢
  rcases hds_at hH with ⟨rfl, rfl⟩ | ⟨g, off, cap, rfl, hlo, hg, hn1, hcell⟩
  · clear hH
    go_enter Tryz.func36, Tryz.ntmps36
    go_wp2_with fail
    refine wp_loop_rounds 1 ?_
    rw [rounds_succ]
    go_wp2_with fail
    go_ret
    exact ⟨ret_int (HY.out (by simp)).symm, Below.refl _ _⟩
  · have Hc := Lib.hid hcell
    clear hH hcell
    go_enter Tryz.func36, Tryz.ntmps36
    go_wp2_with fail
    go_loopw [11] (fun i wr => ∃ k : Nat, k ≤ hs.length ∧ i = .int .i64 k ∧ Hid (∀ (i : Nat) (x : HD), i < k → hs[i]? = some x → inH who week x = false) ∧ Below w.heap.size w wr) (fun i _ => hs.length - (intOf i).toNat)
    case atStart => exact ⟨0, Nat.zero_le _, rfl, Lib.hid fun i _ hi => by omega, Below.refl _ _⟩
    case round =>
      obtain ⟨k, hk, rfl, H0, hb⟩ := hrel
      by_cases hlt : k < hs.length
      · obtain ⟨h, hf⟩ : ∃ h, hs[k]? = some h := ⟨hs[k], List.getElem?_eq_getElem hlt⟩
        obtain ⟨q0, q1, q2, q3⟩ := Hc.out k h hf
        have g0 := below_cell hb q0
        have g1 := below_cell hb q1
        have g2 := below_cell hb q2
        have g3 := below_cell hb q3
        have hbo := below_step hb (below_alloc wr (.cells #[.string h.player, .int .i64 h.start, .int .i64 h.stop, .int .i64 h.kind] 126))
        have HV := Lib.hid (show inH who week h = true → R = h.kind from fun e => HX.out k h hf H0.out e)
        have HW := Lib.hid (show inH who week h = false → ∀ (i : Nat) (x : HD), i < k + 1 → hs[i]? = some x → inH who week x = false from fun e i x hi hx => by
          rcases Nat.lt_succ_iff_lt_or_eq.1 hi with h' | rfl
          · exact H0.out i x h' hx
          · rw [hf] at hx; cases hx; exact e)
        clear hf q0 q1 q2 q3
        cases hp : beqS h.player who
        · have e1 : (h.player.toList == who.toList) = false := hp
          have Hn := Lib.hid (HW.out (by unfold inH; rw [hp]; rfl))
          go_wp2_with fail
          go_roundw
          case rel => exact ⟨k + 1, by omega, by go_num, Hn, hbo⟩
          case measure => simp [intOf]; omega
        · have e1 : (h.player.toList == who.toList) = true := hp
          by_cases h1 : h.start ≤ week
          · by_cases h2 : week < h.stop
            · have Hn := Lib.hid (HV.out (by unfold inH; rw [hp, decide_eq_true h1, decide_eq_true h2]; rfl))
              go_wp2_with fail
              go_ret
              exact ⟨ret_int Hn.out.symm, hbo⟩
            · have Hn := Lib.hid (HW.out (by unfold inH; rw [hp, decide_eq_true h1, decide_eq_false h2]; rfl))
              have h2' : decide (week < h.stop) = false := decide_eq_false h2
              have h2'' : h.stop ≤ week := by omega
              go_wp2_with fail
              go_roundw
              case rel => exact ⟨k + 1, by omega, by go_num, Hn, hbo⟩
              case measure => simp [intOf]; omega
          · have Hn := Lib.hid (HW.out (by unfold inH; rw [hp, decide_eq_false h1]; rfl))
            have h1' : decide (h.start ≤ week) = false := decide_eq_false h1
            have h1'' : week < h.start := by omega
            go_wp2_with fail
            go_roundw
            case rel => exact ⟨k + 1, by omega, by go_num, Hn, hbo⟩
            case measure => simp [intOf]; omega
      · obtain rfl : k = hs.length := by omega
        go_wp2_with fail
        go_ret
        exact ⟨ret_int (HY.out H0.out).symm, hb⟩
set_option maxHeartbeats 400000 in
theorem momentFault_calls (n : Int) (w : World) :
    Calls Tryz.prog 35 #[.int .i64 n] w fun e w' => e = .returned (.int .i64 (unlessE (betwB n 0 345686399999) 1)) ∧ w = w' := by
  cases hb : betwB n 0 345686399999
  · go_enter Tryz.func35, Tryz.ntmps35
    go_wp2_with fail
    refine (momentR_calls n w).mono ?_
    rintro e w' ⟨rfl, rfl⟩
    rw [hb]
    go_wp2_with fail
    go_ret
    exact ⟨rfl, rfl⟩
  · go_enter Tryz.func35, Tryz.ntmps35
    go_wp2_with fail
    refine (momentR_calls n w).mono ?_
    rintro e w' ⟨rfl, rfl⟩
    rw [hb]
    go_wp2_with fail
    go_ret
    exact ⟨rfl, rfl⟩
end Go.Proofs.YtiedmbgdmafhaaaGreatDoor
namespace Go.Proofs.YtiedmbgdmafhaaaGreatDoor
open Go.RowKit

/-- When a club's first game of a week is. -/
def firstP (fs : List FD) (club : ByteArray) (week : Int) : Option Int := if club.size = 0 then none else ((fs.filter (meets week club)).head?).map FD.moment
set_option maxRecDepth 100000 in
set_option maxHeartbeats 4000000 in
theorem firstOf_calls (lo lo' : Nat) (sv fv : Value) (ss : List SD) (fs : List FD) (who : ByteArray) (m : Nat) (w : World) (hS : Sts w lo sv ss) (hF : Fxs w lo' fv fs) (hsn : ss.length ≤ 1000000) (hn : fs.length ≤ 10000) (hm : m ≤ 1000) :
    Calls Tryz.prog 37 #[sv, fv, .string who, .int .i64 (m : Int)] w fun e w' => e = .returned (.tuple #[.int .i64 ((firstP fs (clubN ss who m) m).getD 0), .bool (firstP fs (clubN ss who m) m).isSome]) ∧ Below w.heap.size w w' := by
  obtain ⟨sa, sc, rfl⟩ := sts_shape hS
  have C1 := Lib.hid (clubOf_calls lo who m _ ss w hS hsn hm)
  obtain ⟨fa, fc, rfl⟩ := fxs_shape hF
  have HP := Lib.hid (show firstP fs (clubN ss who m) m = if (clubN ss who m).size = 0 then none else ((fs.filter (meets m (clubN ss who m))).head?).map FD.moment from rfl)
  have HF := Lib.hid (fun w' (hb : Below w.heap.size w w') => gamesOf_calls lo' _ fs (clubN ss who m) m w' (hF.below hb) hn)
  generalize firstP fs (clubN ss who m) m = P at HP ⊢
  generalize clubN ss who m = club at HP HF C1
  generalize fs.filter (meets m club) = G at HP HF
  have HE := Lib.hid (empty_of club)
  clear hS hF
  go_enter Tryz.func37, Tryz.ntmps37
  go_wp2_with fail
  refine C1.out.mono ?_
  rintro e w1 ⟨rfl, hb1⟩
  have C2 := Lib.hid (HF.out w1 hb1)
  clear C1 HF
  go_wp2_with fail
  refine C2.out.mono ?_
  rintro e w2 ⟨vg, hG, rfl, hb2⟩
  have hb := below_step hb1 hb2
  clear C2 hb1 hb2
  by_cases hc : club.size = 0
  · have hP : P = none := by rw [HP.out, if_pos hc]
    subst hP
    have ec : club.toList.isEmpty = true := by rw [HE.out]; simp [hc]
    have ec2 : (club.toList == (⟨#[]⟩ : ByteArray).toList) = true := beqS_iff.2 (by cases club with | mk d => congr 1; exact Array.eq_empty_of_size_eq_zero hc)
    obtain ⟨ga, gc, rfl⟩ := fxs_shape hG
    clear hG
    go_wp2_with fail
    go_ret2
    exact ⟨rfl, hb⟩
  · have ec : club.toList.isEmpty = false := by rw [HE.out]; simp [hc]
    have ec2 : (club.toList == (⟨#[]⟩ : ByteArray).toList) = false := by
      cases hq : beqS club ⟨#[]⟩
      · exact hq
      · exact absurd (by rw [beqS_iff.1 hq]; rfl) hc
    have hP : P = (G.head?).map FD.moment := by rw [HP.out, if_neg hc]
    rcases fxs_at hG with ⟨rfl, rfl⟩ | ⟨g, off, cap, rfl, _, _, _, hcell⟩
    · subst hP
      clear hG
      go_wp2_with fail
      go_ret2
      exact ⟨rfl, hb⟩
    · cases G with
      | nil =>
        subst hP
        clear hG hcell
        go_wp2_with fail
        go_ret2
        exact ⟨rfl, hb⟩
      | cons f G =>
        subst hP
        obtain ⟨q0, q1, q2, q3⟩ := hcell 0 f rfl
        simp only [Nat.zero_mul, Nat.add_zero] at q0 q1 q2 q3
        have hl0 : (f :: G).length ≠ 0 := by simp
        have hl1 : (((f :: G).length : Int) == 0) = false := by rw [beq_eq_false_iff_ne]; omega
        have hl2 : (0 : Int) < ((f :: G).length : Int) := by omega
        clear hG hcell
        generalize (f :: G).length = n at hl0 hl1 hl2 ⊢
        go_wp2_with fail
        go_ret2
        exact ⟨rfl, hb⟩
end Go.Proofs.YtiedmbgdmafhaaaGreatDoor
namespace Go.Proofs.YtiedmbgdmafhaaaGreatDoor
open Go.RowKit Go.Maps

theorem clubB_small {ss : List SD} (h : ∀ s ∈ ss, OkS s) (who : ByteArray) (week : Int) : (clubB ss who week).size ≤ 1000000 := by
  have hat : ∀ i, (stAt ss i).club.size ≤ 40 := fun i => by
    unfold stAt
    cases hi : ss[i]? with
    | none => simp
    | some s => simpa using (h s (List.mem_of_getElem? hi)).2.1
  unfold clubB
  split
  · exact Nat.zero_le 1000000
  · split
    · exact Nat.le_trans (hat _) (by omega)
    · exact Nat.zero_le 1000000
def frstE (ps : List PD) (ss : List SD) (fs : List FD) (who : ByteArray) (week : Int) : Int := firstE [chkSt ps ss, chkFx fs, unlessE (knownB ps who) 8, unlessE (betwB week 1 60) 1]
def frstP (ps : List PD) (ss : List SD) (fs : List FD) (who : ByteArray) (week : Int) : Option Int := if frstE ps ss fs who week = 0 then lkA (bgL week fs) (clubB ss who week) else none
set_option maxRecDepth 100000 in
set_option maxHeartbeats 4000000 in
theorem first_calls (lo lo' lo'' : Nat) (pv sv fv : Value) (ps : List PD) (ss : List SD) (fs : List FD) (who : ByteArray) (week : Int) (w : World) (hp : Plays w lo' pv ps) (hps : ∀ p ∈ ps, SmallP p) (hpn : ps.length ≤ 1000000) (hG : Glob w) (hS : Sts w lo sv ss) (hss : ∀ s ∈ ss, OkS s) (hsn : ss.length ≤ 1000000) (hF : Fxs w lo'' fv fs) (hok : ∀ f ∈ fs, OkF f) (hfn : fs.length ≤ 10000) :
    Calls Tryz.prog 31 #[pv, sv, fv, .string who, .int .i64 week] w fun e w' => e = .returned (.tuple #[.int .i64 ((frstP ps ss fs who week).getD 0), .bool (frstP ps ss fs who week).isSome, .int .i64 (frstE ps ss fs who week)]) ∧ Below w.heap.size w w' := by
  have HK := Lib.hid (show ∀ w', Below w.heap.size w w' → Plays w' lo' pv ps ∧ Sts w' lo sv ss ∧ Fxs w' lo'' fv fs from fun w' hb => ⟨hp.below hb, hS.below hb, hF.below hb⟩)
  obtain ⟨pa, pc, rfl⟩ := plays_shape hp
  obtain ⟨sa, sc, rfl⟩ := sts_shape hS
  obtain ⟨fa, fc, rfl⟩ := fxs_shape hF
  have HE := Lib.hid (show frstE ps ss fs who week = firstE [chkSt ps ss, chkFx fs, unlessE (knownB ps who) 8, unlessE (betwB week 1 60) 1] from rfl)
  have HP := Lib.hid (show frstP ps ss fs who week = if frstE ps ss fs who week = 0 then lkA (bgL week fs) (clubB ss who week) else none from rfl)
  generalize frstE ps ss fs who week = E at HE HP ⊢
  generalize frstP ps ss fs who week = P at HP ⊢
  have C1 := Lib.hid (checkStints_calls lo lo' _ _ ps ss w hp hps hpn hG hS hss hsn)
  have C2 := Lib.hid (fun w' hb => checkFixtures_calls lo'' _ fs w' (HK.out w' hb).2.2 hok (by omega))
  have C3 := Lib.hid (fun w' hb => known_calls lo' who _ ps w' (HK.out w' hb).1)
  have C4 := Lib.hid (fun w' hb => firsts_calls lo'' _ fs week w' (HK.out w' hb).2.2 hok hfn)
  have C5 := Lib.hid (fun w' hb => clubIn_calls lo who week _ ss w' (HK.out w' hb).2.1 hsn)
  have hcl := clubB_small hss who week
  clear hp hS hF hG HK
  go_enter Tryz.func31, Tryz.ntmps31
  go_wp2_with fail
  refine C1.out.mono ?_
  rintro e w1 ⟨rfl, hb1⟩
  go_wp2_with fail
  refine (C2.out w1 hb1).mono ?_
  rintro e w2 ⟨rfl, hb2⟩
  have hb2 := below_step hb1 hb2
  go_wp2_with fail
  refine (C3.out w2 hb2).mono ?_
  rintro e w3 ⟨rfl, hb3⟩
  have hb3 := below_step hb2 hb3
  clear hb1 hb2
  go_wp2_with fail
  refine (unless_calls _ _ _).mono ?_
  rintro e w' ⟨rfl, rfl⟩
  go_wp2_with fail
  refine (week_calls _ _).mono ?_
  rintro e w' ⟨rfl, rfl⟩
  go_wp2_with fail
  refine (unless_calls _ _ _).mono ?_
  rintro e w' ⟨rfl, rfl⟩
  go_wp2_with fail
  refine (orE_calls _ 0 4 [chkSt ps ss, chkFx fs, unlessE (knownB ps who) 8, unlessE (betwB week 1 60) 1] _ (by simp) (by exact nums4 _ _ _ _ _ _)).mono ?_
  rintro e w4 ⟨rfl, hw4⟩
  rw [← HE.out]
  have hb4 := below_step hb3 (below_alloc w3 (.cells #[.int .i64 (chkSt ps ss), .int .i64 (chkFx fs), .int .i64 (unlessE (knownB ps who) 8), .int .i64 (unlessE (betwB week 1 60) 1)] 32))
  rw [hw4] at hb4
  clear hw4 hb3 C1 C2 C3
  by_cases hz : E = 0
  · have e1 : (E != 0) = false := by simp [hz]
    have Hz := Lib.hid hz
    have HP' := Lib.hid (show P = lkA (bgL week fs) (clubB ss who week) by rw [HP.out, if_pos hz])
    clear hz
    go_wp2_with fail
    refine (C4.out w4 hb4).mono ?_
    rintro e w5 ⟨b, n, rfl, hB, hbw, hb5⟩
    have hb5 := below_step hb4 hb5
    clear hb4
    go_wp2_with fail
    refine (C5.out w5 hb5).mono ?_
    rintro e w6 ⟨rfl, hb6⟩
    obtain ⟨D, hown, hD⟩ := hB.kept (gb_below hb6 none) (by simp)
    have hb6 := below_step hb5 hb6
    have hkey := kL_key hcl
    have HD := Lib.hid (hD (clubB ss who week))
    rw [← HP'.out] at HD
    clear hb5 hB hD C4 C5
    go_wp2_with (first
      | (at_lookup; refine wpList_lookup_own_ok_int _ rfl _ _ 135 rfl 9 3 .i64 lawS Tryz.underlying135 Tryz.underlying3 (zero_int _) b n D rfl hown _ _ rfl hkey ?_; intro c hat hwc)
      | go_in)
    have hc : c = P.getD 0 := by
      have h2 := HD.out.2
      rw [hat] at h2
      simpa using h2
    go_ret3
    refine ⟨?_, hb6⟩
    rw [Hz.out, ← HD.out.1, ← hc]
    rfl
  · have e1 : (E != 0) = true := by simp [hz]
    have HP' := Lib.hid (show P = none by rw [HP.out, if_neg hz])
    clear hz
    go_wp2_with fail
    go_ret3
    refine ⟨?_, hb4⟩
    rw [HP'.out]
    rfl
end Go.Proofs.YtiedmbgdmafhaaaGreatDoor
