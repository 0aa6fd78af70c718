/- The reference's FixturesFault. -/
import Derived.Test.YtmjkbmkjnbpgeaaGreatDoorFa
import Derived.Test.YtmjkbmkjnbpgeaaGreatDoorBi
namespace Go.Proofs.YtmjkbmkjnbpgeaaGreatDoor
open Go.RowKit

set_option maxHeartbeats 400000 in
theorem momentR_calls (n : Int) (w : World) :
    Calls Tryz.prog 105 #[.int .i64 n] w fun e w' => e = .returned (.bool (betwB n 0 345686399999)) ∧ w = w' := by
  go_enter Tryz.func105, Tryz.ntmps105
  go_wp2_with fail
  refine (in_calls n 0 345686399999 w).mono ?_
  rintro e w' ⟨rfl, rfl⟩
  go_wp2_with fail
  go_ret
  exact ⟨rfl, rfl⟩
/-- How two fixtures stand by week and moment. -/
def cmpWM (a b : FD) : Int := firstE [Lib.compareInt a.week b.week, Lib.compareInt a.moment b.moment]
/-- What the reference finds wrong with fixture i. -/
def fxH (fs : List FD) (i : Nat) : Int :=
  let f := fxAt fs i
  if betwB f.week 1 60 && betwB f.moment 0 345686399999 then
    if keyB f.home && keyB f.away then
      if beqS f.home f.away then 6
      else if i = 0 then 0
      else if decide (0 < cmpWM (fxAt fs (i - 1)) f) || (decide (cmpWM (fxAt fs (i - 1)) f = 0) && !ltS (fxAt fs (i - 1)).home f.home) then 7 else 0
    else 5
  else 1
def refFx (fs : List FD) : Int := eachE fs.length 1000 (fxH fs)
set_option maxRecDepth 100000 in
set_option maxHeartbeats 8000000 in
theorem fixturesFault_calls (lo : Nat) (v : Value) (fs : List FD) (w : World) (hF : Fxs w lo v fs) (hok : ∀ f ∈ fs, OkF f) (hn : fs.length ≤ 10000) :
    Calls Tryz.prog 33 #[v] w (IntBelow (refFx fs) w) := by
  have Hok := Lib.hid hok
  clear hok
  have HX := Lib.hid (show ∀ k, k < fs.length → fs.length ≤ 1000 → (∀ i, i < k → fxH fs i = 0) → ∀ x, fxH fs k = x → x ≠ 0 → refFx fs = x from fun k hk h1 h0 x hx hne => by
    unfold refFx eachE
    rw [if_neg (by omega)]
    simp only [Int.toNat_natCast]
    rw [errsTo_hit hk h0 (by rw [hx]; exact hne), hx])
  have HY := Lib.hid (show fs.length ≤ 1000 → (∀ i, i < fs.length → fxH fs i = 0) → refFx fs = 0 from fun h1 h0 => by
    unfold refFx eachE
    rw [if_neg (by omega)]
    exact errsTo_none (by simpa using h0))
  have HZ := Lib.hid (show ¬ fs.length ≤ 1000 → refFx fs = 2 from fun h1 => by
    unfold refFx eachE
    rw [if_pos (by omega)])
  generalize refFx fs = R at HX HY HZ ⊢
  have h00 : ∀ (n : Nat), (n : Int) ≤ 1000 ↔ n ≤ 1000 := fun n => by omega
  clear h00
  by_cases hbig : fs.length ≤ 1000
  · have hd : decide (1000 < fs.length) = false := decide_eq_false (by omega)
    rcases fxs_at hF with ⟨rfl, rfl⟩ | ⟨g, off, cap, rfl, hlo, hg, hn1, hcell⟩
    · clear hF
      go_enter Tryz.func33, Tryz.ntmps33
      go_wp2_with fail
      refine wp_loop_rounds 1 ?_
      rw [rounds_succ]
      go_wp2_with fail
      go_ret
      exact ⟨ret_int (HY.out hbig (by simp)).symm, Below.refl _ _⟩
    · have Hc := Lib.hid hcell
      clear hF hcell
      go_enter Tryz.func33, Tryz.ntmps33
      go_wp2_with fail
      go_loopw [12] (fun i wr => ∃ k : Nat, k ≤ fs.length ∧ i = .int .i64 k ∧ Hid (∀ i, i < k → fxH fs i = 0) ∧ Below w.heap.size w wr) (fun i _ => fs.length - (intOf i).toNat)
      case atStart => exact ⟨0, Nat.zero_le _, rfl, Lib.hid fun i hi => by omega, Below.refl _ _⟩
      case round =>
        obtain ⟨k, hk, rfl, H0, hb⟩ := hrel
        by_cases hlt : k < fs.length
        · obtain ⟨f, hf⟩ : ∃ f, fs[k]? = some f := ⟨fs[k], List.getElem?_eq_getElem hlt⟩
          obtain ⟨ok1, ok2, -⟩ := Hok.out f (List.mem_of_getElem? hf)
          obtain ⟨q0, q1, q2, q3⟩ := Hc.out k f hf
          have g0 := below_cell hb q0
          have g1 := below_cell hb q1
          have g2 := below_cell hb q2
          have g3 := below_cell hb q3
          have hbo := below_step hb (below_alloc wr (.cells #[.int .i64 f.week, .int .i64 f.moment, .string f.home, .string f.away] 72))
          have Hf := Lib.hid (fxAt_some hf)
          have HV := Lib.hid (show ∀ x, fxH fs k = x → x ≠ 0 → R = x from fun x hx hne => HX.out k hlt hbig H0.out x hx hne)
          have HW := Lib.hid (show fxH fs k = 0 → ∀ i, i < k + 1 → fxH fs i = 0 from fun h i hi => by
            rcases Nat.lt_succ_iff_lt_or_eq.1 hi with h' | rfl
            · exact H0.out i h'
            · exact h)
          clear hf q0 q1 q2 q3
          cases hw : betwB f.week 1 60
          · go_wp2_with fail
            refine (weekR_calls _ _).mono ?_
            rintro e w' ⟨rfl, rfl⟩
            rw [hw]
            go_wp2_with fail
            go_ret
            exact ⟨ret_int (HV.out 1 (by simp only [fxH, Hf.out, hw]; rfl) (by decide)).symm, hbo⟩
          · cases hm : betwB f.moment 0 345686399999
            · go_wp2_with fail
              refine (weekR_calls _ _).mono ?_
              rintro e w' ⟨rfl, rfl⟩
              rw [hw]
              go_wp2_with fail
              refine (momentR_calls _ _).mono ?_
              rintro e w' ⟨rfl, rfl⟩
              rw [hm]
              go_wp2_with fail
              go_ret
              exact ⟨ret_int (HV.out 1 (by simp only [fxH, Hf.out, hw, hm]; rfl) (by decide)).symm, hbo⟩
            · cases hh : keyB f.home
              · go_wp2_with fail
                refine (weekR_calls _ _).mono ?_
                rintro e w' ⟨rfl, rfl⟩
                rw [hw]
                go_wp2_with fail
                refine (momentR_calls _ _).mono ?_
                rintro e w' ⟨rfl, rfl⟩
                rw [hm]
                go_wp2_with fail
                refine (keyR_calls _ _ (by omega)).mono ?_
                rintro e w' ⟨rfl, rfl⟩
                rw [hh]
                go_wp2_with fail
                go_ret
                exact ⟨ret_int (HV.out 5 (by simp only [fxH, Hf.out, hw, hm, hh]; rfl) (by decide)).symm, hbo⟩
              · cases ha : keyB f.away
                · go_wp2_with fail
                  refine (weekR_calls _ _).mono ?_
                  rintro e w' ⟨rfl, rfl⟩
                  rw [hw]
                  go_wp2_with fail
                  refine (momentR_calls _ _).mono ?_
                  rintro e w' ⟨rfl, rfl⟩
                  rw [hm]
                  go_wp2_with fail
                  refine (keyR_calls _ _ (by omega)).mono ?_
                  rintro e w' ⟨rfl, rfl⟩
                  rw [hh]
                  go_wp2_with fail
                  refine (keyR_calls _ _ (by omega)).mono ?_
                  rintro e w' ⟨rfl, rfl⟩
                  rw [ha]
                  go_wp2_with fail
                  go_ret
                  exact ⟨ret_int (HV.out 5 (by simp only [fxH, Hf.out, hw, hm, hh, ha]; rfl) (by decide)).symm, hbo⟩
                · cases hq : beqS f.home f.away
                  · have eq0 : (f.home.toList == f.away.toList) = false := hq
                    by_cases hk0 : k = 0
                    · have Hn := Lib.hid (HW.out (by simp only [fxH, Hf.out, hw, hm, hh, ha, hq, if_pos hk0]; rfl))
                      have w0 : decide (0 < k) = false := decide_eq_false (by omega)
                      clear hk0
                      go_wp2_with fail
                      refine (weekR_calls _ _).mono ?_
                      rintro e w' ⟨rfl, rfl⟩
                      rw [hw]
                      go_wp2_with fail
                      refine (momentR_calls _ _).mono ?_
                      rintro e w' ⟨rfl, rfl⟩
                      rw [hm]
                      go_wp2_with fail
                      refine (keyR_calls _ _ (by omega)).mono ?_
                      rintro e w' ⟨rfl, rfl⟩
                      rw [hh]
                      go_wp2_with fail
                      refine (keyR_calls _ _ (by omega)).mono ?_
                      rintro e w' ⟨rfl, rfl⟩
                      rw [ha]
                      go_wp2_with fail
                      go_roundw
                      case rel => exact ⟨k + 1, by omega, by go_num, Hn, hbo⟩
                      case measure => simp [intOf]; omega
                    · obtain ⟨fp, hfp⟩ : ∃ f, fs[k - 1]? = some f := ⟨_, List.getElem?_eq_getElem (show k - 1 < fs.length by omega)⟩
                      obtain ⟨r0, r1, r2, r3⟩ := Hc.out (k - 1) fp hfp
                      have p0 := below_cell hbo r0
                      have p1 := below_cell hbo r1
                      have p2 := below_cell hbo r2
                      have p3 := below_cell hbo r3
                      have Hp := Lib.hid (fxAt_some hfp)
                      have w0 : 0 < k := by omega
                      have w1 : IntKind.i64.wrap ((k : Int) - 1) = ((k - 1 : Nat) : Int) := by rw [IntWalk.i64_in _ (by omega)]; omega
                      have w2 : ((k - 1 : Nat) : Int) < (fs.length : Int) := by omega
                      have HT := Lib.hid (show fxH fs k = if decide (0 < cmpWM fp f) || (decide (cmpWM fp f = 0) && !ltS fp.home f.home) then 7 else 0 by
                        simp only [fxH, Hf.out, Hp.out, hw, hm, hh, ha, hq, if_neg hk0]; rfl)
                      clear r0 r1 r2 r3 hfp
                      go_wp2_with fail
                      refine (weekR_calls _ _).mono ?_
                      rintro e w' ⟨rfl, rfl⟩
                      rw [hw]
                      go_wp2_with fail
                      refine (momentR_calls _ _).mono ?_
                      rintro e w' ⟨rfl, rfl⟩
                      rw [hm]
                      go_wp2_with fail
                      refine (keyR_calls _ _ (by omega)).mono ?_
                      rintro e w' ⟨rfl, rfl⟩
                      rw [hh]
                      go_wp2_with fail
                      refine (keyR_calls _ _ (by omega)).mono ?_
                      rintro e w' ⟨rfl, rfl⟩
                      rw [ha]
                      go_wp2_with fail
                      obtain ⟨W4, hW4⟩ : ∃ W4, W4 = (((wr.alloc (.cells #[.int .i64 f.week, .int .i64 f.moment, .string f.home, .string f.away] 72)).alloc (.cells #[.int .i64 fp.week, .int .i64 fp.moment, .string fp.home, .string fp.away] 72)).alloc (.cells #[.int .i64 fp.week, .int .i64 fp.moment] 3)).alloc (.cells #[.int .i64 f.week, .int .i64 f.moment] 3) := ⟨_, rfl⟩
                      rw [← hW4]
                      have hb4 : Below wr.heap.size wr W4 := by rw [hW4]; exact below_step (below2 wr _ _) (below2 _ _ _)
                      have k1 : W4.cell? ⟨wr.heap.size + 1 + 1, 0, none⟩ = some (.int .i64 fp.week) := by rw [hW4, World.cell?_alloc_past _ _ _ (by simp), World.cell?_alloc_at _ _ _ _ (by simp)]; rfl
                      have k2 : W4.cell? ⟨wr.heap.size + 1 + 1, 1, none⟩ = some (.int .i64 fp.moment) := by rw [hW4, World.cell?_alloc_past _ _ _ (by simp), World.cell?_alloc_at _ _ _ _ (by simp)]; rfl
                      have k3 : W4.cell? ⟨wr.heap.size + 1 + 1 + 1, 0, none⟩ = some (.int .i64 f.week) := by rw [hW4, World.cell?_alloc_at _ _ _ _ (by simp)]; rfl
                      have k4 : W4.cell? ⟨wr.heap.size + 1 + 1 + 1, 1, none⟩ = some (.int .i64 f.moment) := by rw [hW4, World.cell?_alloc_at _ _ _ _ (by simp)]; rfl
                      have k5 : W4.cell? ⟨wr.heap.size, 2, none⟩ = some (.string f.home) := by rw [hW4, World.cell?_alloc_past _ _ _ (by simp <;> omega), World.cell?_alloc_past _ _ _ (by simp <;> omega), World.cell?_alloc_past _ _ _ (by simp), World.cell?_alloc_at _ _ _ _ rfl]; rfl
                      have k6 : W4.cell? ⟨wr.heap.size + 1, 2, none⟩ = some (.string fp.home) := by rw [hW4, World.cell?_alloc_past _ _ _ (by simp <;> omega), World.cell?_alloc_past _ _ _ (by simp), World.cell?_alloc_at _ _ _ _ (by simp)]; rfl
                      clear hW4 p0 p1 p2 p3 hbo g0 g1 g2 g3
                      refine (cmpInts_calls _ _ _ _ _ _ _ _ _ k1 k2 k3 k4).mono ?_
                      rintro e w' ⟨rfl, hw'⟩
                      subst hw'
                      have hb5 := below_step hb hb4
                      clear k1 k2 k3 k4 hb4
                      have HC := Lib.hid (show cmpWM fp f = firstE [Lib.compareInt fp.week f.week, Lib.compareInt fp.moment f.moment] from rfl)
                      generalize firstE [Lib.compareInt fp.week f.week, Lib.compareInt fp.moment f.moment] = x at HC ⊢
                      by_cases hx1 : 0 < x
                      · have Hv := Lib.hid (HV.out 7 (by rw [HT.out, HC.out, decide_eq_true hx1]; rfl) (by decide))
                        go_wp2_with fail
                        go_ret
                        exact ⟨ret_int Hv.out.symm, hb5⟩
                      · have hx1' : decide (0 < x) = false := decide_eq_false hx1
                        by_cases hx2 : x = 0
                        · cases hl : ltS fp.home f.home
                          · have e1 : Op.bytesLess fp.home.toList f.home.toList = false := hl
                            have Hv := Lib.hid (HV.out 7 (by rw [HT.out, HC.out, hx1', decide_eq_true hx2, hl]; rfl) (by decide))
                            subst hx2
                            clear hx1
                            go_wp2_with fail
                            go_ret
                            exact ⟨ret_int Hv.out.symm, hb5⟩
                          · have e1 : Op.bytesLess fp.home.toList f.home.toList = true := hl
                            have Hn := Lib.hid (HW.out (by rw [HT.out, HC.out, hx1', decide_eq_true hx2, hl]; rfl))
                            subst hx2
                            clear hx1
                            go_wp2_with fail
                            go_roundw
                            case rel => exact ⟨k + 1, by omega, by go_num, Hn, hb5⟩
                            case measure => simp [intOf]; omega
                        · have hx2' : (x == 0) = false := by simp [hx2]
                          have Hn := Lib.hid (HW.out (by rw [HT.out, HC.out, hx1', decide_eq_false hx2]; rfl))
                          go_wp2_with fail
                          go_roundw
                          case rel => exact ⟨k + 1, by omega, by go_num, Hn, hb5⟩
                          case measure => simp [intOf]; omega
                  · have eq0 : (f.home.toList == f.away.toList) = true := hq
                    go_wp2_with fail
                    refine (weekR_calls _ _).mono ?_
                    rintro e w' ⟨rfl, rfl⟩
                    rw [hw]
                    go_wp2_with fail
                    refine (momentR_calls _ _).mono ?_
                    rintro e w' ⟨rfl, rfl⟩
                    rw [hm]
                    go_wp2_with fail
                    refine (keyR_calls _ _ (by omega)).mono ?_
                    rintro e w' ⟨rfl, rfl⟩
                    rw [hh]
                    go_wp2_with fail
                    refine (keyR_calls _ _ (by omega)).mono ?_
                    rintro e w' ⟨rfl, rfl⟩
                    rw [ha]
                    go_wp2_with fail
                    go_ret
                    exact ⟨ret_int (HV.out 6 (by simp only [fxH, Hf.out, hw, hm, hh, ha, hq]; rfl) (by decide)).symm, hbo⟩
        · obtain rfl : k = fs.length := by omega
          go_wp2_with fail
          go_ret
          exact ⟨ret_int (HY.out hbig H0.out).symm, hb⟩
  · have hd : 1000 < fs.length := by omega
    obtain ⟨fa, fc, rfl⟩ := fxs_shape hF
    clear hF
    go_enter Tryz.func33, Tryz.ntmps33
    go_wp2_with fail
    go_ret
    exact ⟨ret_int (HZ.out hbig).symm, Below.refl _ _⟩
end Go.Proofs.YtmjkbmkjnbpgeaaGreatDoor
