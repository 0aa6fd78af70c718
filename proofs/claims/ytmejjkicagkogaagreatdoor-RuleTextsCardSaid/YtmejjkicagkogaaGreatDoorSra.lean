/- The reference's RulesFault. -/
import Derived.Test.YtmejjkicagkogaaGreatDoorSrt
namespace Go.Proofs.YtmejjkicagkogaaGreatDoor
open Go.RowKit

set_option maxRecDepth 100000 in
set_option maxHeartbeats 8000000 in
theorem rulesFault_calls (lo : Nat) (v : Value) (rs : List RD) (w : World) (hR : Rls w lo v rs) (hs : ∀ r ∈ rs, SmallR r) (hn : rs.length ≤ 1000000) :
    Calls Tryz.prog 7 #[v] w (IntBelow (chkRl rs) w) := by
  have hat := rls_at hR
  obtain ⟨ra, rc, hv⟩ := rls_shape hR
  have Hs := Lib.hid hs
  have Hat := Lib.hid hat
  rw [hv] at Hat ⊢
  clear hs hR hat hv
  by_cases hm : rs.length ≤ 100
  · have Hm := Lib.hid (show (rs.length : Int) ≤ 100 by omega)
    go_enter Tryz.func7, Tryz.ntmps7
    go_wp2_with fail
    go_loopw [3, 13] (fun last i wr => ∃ k : Nat, k ≤ rs.length ∧ i = .int .i64 k ∧ last = .string (lastR rs k) ∧ Hid (∀ i, i < k → rlF rs i = 0) ∧ Below w.heap.size w wr) (fun _ i _ => rs.length - (intOf i).toNat)
    case atStart => exact ⟨0, Nat.zero_le _, rfl, rfl, Lib.hid (fun i hi => by omega), Below.refl _ _⟩
    case round =>
      obtain ⟨k, hk, rfl, rfl, H0, hb⟩ := hrel
      by_cases hlt : k < rs.length
      · obtain ⟨r, hr⟩ : ∃ r, rs[k]? = some r := ⟨rs[k], List.getElem?_eq_getElem hlt⟩
        have hlast : lastR rs (k + 1) = r.key := by unfold lastR; rw [if_neg (by omega), Nat.add_sub_cancel, rlAt_some hr]
        have Hlast := Lib.hid hlast
        obtain ⟨s1, s2, s3, s4, s5, s6, s7⟩ := Hs.out r (List.mem_of_getElem? hr)
        have S6 := Lib.hid s6
        have S7 := Lib.hid s7
        have Hnm := Lib.hid (fun h => rl_name hr h)
        have Hor := Lib.hid (fun h1 h2 => rl_order hr h1 h2)
        have Hre := Lib.hid (fun h1 h2 => rl_rest hr h1 h2)
        have Hhit := Lib.hid (fun (h : rlF rs k ≠ 0) => (show chkRl rs = rlF rs k from eachE_hit Hm.out hlt H0.out h))
        have Hnext := Lib.hid (fun (h : rlF rs k = 0) i (hi : i < k + 1) => (show rlF rs i = 0 by
          rcases Nat.lt_succ_iff_lt_or_eq.1 hi with h' | rfl
          · exact H0.out i h'
          · exact h))
        rcases Hat.out with ⟨_, h⟩ | ⟨g, off, cap, e, _, hg, _, hcell⟩
        · rw [h] at hlt; simp at hlt
        simp only [Value.slice.injEq] at e
        obtain ⟨rfl, -, rfl⟩ := e
        obtain ⟨q0, q1, q2, q3, q4, q5, q6⟩ := hcell k r hr
        have p0 := below_cell hb q0
        have p1 := below_cell hb q1
        have p2 := below_cell hb q2
        have p3 := below_cell hb q3
        have p4 := below_cell hb q4
        have p5 := below_cell hb q5
        have p6 := below_cell hb q6
        clear hr hlast s4 s5 s6 s7 hcell q0 q1 q2 q3 q4 q5 q6
        go_upto_region 7 with fail
        obtain ⟨wA, hwA⟩ : ∃ wA, wA = wr.alloc (.cells #[.string r.key, .string r.stat, .string r.pos, .int .i64 r.kind, .int .i64 r.many, .int .i64 r.num, .int .i64 r.den] 40) := ⟨_, rfl⟩
        obtain ⟨X, hX⟩ : ∃ X, X = wr.heap.size := ⟨_, rfl⟩
        have hbA : Below w.heap.size w wA := by rw [hwA]; exact below_step hb (below_alloc wr _)
        have hx : wA.heap[X]? = some (.cells #[.string r.key, .string r.stat, .string r.pos, .int .i64 r.kind, .int .i64 r.many, .int .i64 r.num, .int .i64 r.den] 40 (0, 0)) := by rw [hwA, hX]; exact heap_alloc_new wr _
        rw [← hwA, ← hX]
        have x0 := cell_at hx 0 rfl
        have x1 := cell_at hx 1 rfl
        have x2 := cell_at hx 2 rfl
        have x3 := cell_at hx 3 rfl
        have x4 := cell_at hx 4 rfl
        have x5 := cell_at hx 5 rfl
        have x6 := cell_at hx 6 rfl
        have Hx := Lib.hid hx
        have HbA := Lib.hid hbA
        clear hwA hX hbA hx hb p0 p1 p2 p3 p4 p5 p6
        go_cut [6] from 14 to 82 (fun v wc => v = .bool (bndB r.kind) ∧ wA = wc)
        case first =>
          by_cases h2 : r.kind = 2
          · have e1 : (r.kind == 2) = true := by simp [h2]
            have HB := Lib.hid (show bndB r.kind = true by simp [bndB, h2])
            clear h2
            go_wp2_with fail
            go_meet
            case rel => exact ⟨by rw [HB.out], rfl⟩
          · have e1 : (r.kind == 2) = false := by simp [h2]
            have HB := Lib.hid (show bndB r.kind = (r.kind == 3) by simp [bndB, h2])
            clear h2
            go_wp2_with fail
            go_meet
            case rel => exact ⟨by rw [HB.out], rfl⟩
        case rest =>
          obtain ⟨rfl, hwc⟩ := hcut
          subst hwc
          have HMB := Lib.hid (many_bnd r.kind r.many)
          generalize bndB r.kind = bnd at HMB ⊢
          go_upto_region 8 with fail
          go_cut [25] from 14 to 82 (fun v wc => v = .bool (!nmB r) ∧ wA = wc)
          case first =>
            have HE := Lib.hid (empty_of r.pos)
            cases h1 : keyB r.key
            · have HN := Lib.hid (show (!nmB r) = true by simp [nmB, h1])
              have H1 := Lib.hid h1
              clear h1
              go_wp2_with fail
              refine (keyR_calls _ _ (by omega)).mono ?_
              rintro e w' ⟨rfl, rfl⟩
              rw [H1.out]
              go_wp2_with fail
              go_meet
              case rel => exact ⟨by rw [HN.out], rfl⟩
            · cases h2 : keyB r.stat
              · have HN := Lib.hid (show (!nmB r) = true by simp [nmB, h2])
                have H1 := Lib.hid h1
                have H2 := Lib.hid h2
                clear h1 h2
                go_wp2_with fail
                refine (keyR_calls _ _ (by omega)).mono ?_
                rintro e w' ⟨rfl, rfl⟩
                rw [H1.out]
                go_wp2_with fail
                refine (keyR_calls _ _ (by omega)).mono ?_
                rintro e w' ⟨rfl, rfl⟩
                rw [H2.out]
                go_wp2_with fail
                go_meet
                case rel => exact ⟨by rw [HN.out], rfl⟩
              · by_cases h3 : r.pos.size = 0
                · have e3 : r.pos.toList.isEmpty = true := by rw [HE.out]; simp [h3]
                  have HN := Lib.hid (show (!nmB r) = false by simp [nmB, h1, h2, h3])
                  have H1 := Lib.hid h1
                  have H2 := Lib.hid h2
                  clear h1 h2 h3
                  go_wp2_with fail
                  refine (keyR_calls _ _ (by omega)).mono ?_
                  rintro e w' ⟨rfl, rfl⟩
                  rw [H1.out]
                  go_wp2_with fail
                  refine (keyR_calls _ _ (by omega)).mono ?_
                  rintro e w' ⟨rfl, rfl⟩
                  rw [H2.out]
                  go_wp2_with fail
                  go_meet
                  case rel => exact ⟨by rw [HN.out], rfl⟩
                · have e3 : r.pos.toList.isEmpty = false := by rw [HE.out]; simp [h3]
                  have HN := Lib.hid (show (!nmB r) = !keyB r.pos by simp [nmB, h1, h2, h3])
                  have H1 := Lib.hid h1
                  have H2 := Lib.hid h2
                  clear h1 h2 h3
                  go_wp2_with fail
                  refine (keyR_calls _ _ (by omega)).mono ?_
                  rintro e w' ⟨rfl, rfl⟩
                  rw [H1.out]
                  go_wp2_with fail
                  refine (keyR_calls _ _ (by omega)).mono ?_
                  rintro e w' ⟨rfl, rfl⟩
                  rw [H2.out]
                  go_wp2_with fail
                  refine (keyR_calls _ _ (by omega)).mono ?_
                  rintro e w' ⟨rfl, rfl⟩
                  go_wp2_with fail
                  go_meet
                  case rel => exact ⟨by rw [HN.out], rfl⟩
          case rest =>
            obtain ⟨rfl, hwc⟩ := hcut
            subst hwc
            cases hnm : nmB r
            · have HN := Lib.hid (Hnm.out hnm)
              clear hnm
              go_wp2_with fail
              go_ret
              exact ⟨ret_int (by rw [Hhit.out (by rw [HN.out]; omega), HN.out]), HbA.out⟩
            · cases ho : ltS (lastR rs k) r.key
              · have HO := Lib.hid (Hor.out hnm ho)
                have ho' : (Op.bytesLess r.key.toList (lastR rs k).toList || r.key.toList == (lastR rs k).toList) = true := by rw [leS_eq, ho]; rfl
                have Ho := Lib.hid ho'
                clear hnm ho
                go_wp2_with fail
                go_ret
                exact ⟨ret_int (by rw [Hhit.out (by rw [HO.out]; omega), HO.out]), HbA.out⟩
              · have HRE := Lib.hid (Hre.out hnm ho)
                have ho' : (Op.bytesLess r.key.toList (lastR rs k).toList || r.key.toList == (lastR rs k).toList) = false := by rw [leS_eq, ho]; rfl
                clear hnm ho
                cases hkd : betwB r.kind 1 4
                · have HK := Lib.hid (show rlF rs k = 4 by rw [HRE.out, hkd]; rfl)
                  have Hkd := Lib.hid hkd
                  clear hkd
                  go_wp2_with fail
                  refine (in_calls _ _ _ _).mono ?_
                  rintro e w' ⟨rfl, rfl⟩
                  rw [Hkd.out]
                  go_wp2_with fail
                  go_ret
                  exact ⟨ret_int (by rw [Hhit.out (by rw [HK.out]; omega), HK.out]), HbA.out⟩
                · have HRF := Lib.hid (show rlF rs k = firstE [unlessE (manyB r.kind r.many) 1, wrongF r.num r.den 10000] by rw [HRE.out, hkd]; rfl)
                  have Hkd := Lib.hid hkd
                  clear hkd
                  go_upto_region 14 with (refine (in_calls _ _ _ _).mono ?_; rintro e w' ⟨rfl, rfl⟩; rw [Hkd.out])
                  go_cut [57] from 14 to 82 (fun v wc => v = .bool (!manyB r.kind r.many) ∧ wA = wc)
                  case first =>
                    cases bnd
                    · have HB := Lib.hid (show (!manyB r.kind r.many) = (r.many != 0) by rw [HMB.out]; rfl)
                      go_wp2_with fail
                      go_meet
                      case rel => exact ⟨by rw [HB.out], rfl⟩
                    · have HB := Lib.hid (show (!manyB r.kind r.many) = !betwB r.many 1 100000 by rw [HMB.out]; rfl)
                      cases hbt : betwB r.many 1 100000
                      · have Hbt := Lib.hid hbt
                        rw [hbt] at HB
                        clear hbt
                        go_wp2_with fail
                        refine (in_calls _ _ _ _).mono ?_
                        rintro e w' ⟨rfl, rfl⟩
                        rw [Hbt.out]
                        go_wp2_with fail
                        go_meet
                        case rel => exact ⟨by rw [HB.out]; rfl, rfl⟩
                      · have Hbt := Lib.hid hbt
                        rw [hbt] at HB
                        clear hbt
                        go_wp2_with fail
                        refine (in_calls _ _ _ _).mono ?_
                        rintro e w' ⟨rfl, rfl⟩
                        rw [Hbt.out]
                        go_wp2_with fail
                        go_meet
                        case rel => exact ⟨by rw [HB.out]; rfl, rfl⟩
                  case rest =>
                    obtain ⟨rfl, hwc⟩ := hcut
                    subst hwc
                    cases hmb : manyB r.kind r.many
                    · have HK := Lib.hid (show rlF rs k = 1 by rw [HRF.out, hmb]; rfl)
                      clear hmb
                      go_wp2_with fail
                      go_ret
                      exact ⟨ret_int (by rw [Hhit.out (by rw [HK.out]; omega), HK.out]), HbA.out⟩
                    · have HRG := Lib.hid (show rlF rs k = wrongF r.num r.den 10000 by rw [HRF.out, hmb]; simp [unlessE, firstE]; intro h; exact h.symm)
                      have HC := Lib.hid (pointsFault_calls r.num r.den wA S6.out S7.out)
                      clear hmb
                      unfold frV at HC
                      go_wp2_with fail
                      refine HC.out.mono ?_
                      rintro e w' ⟨rfl, hb'⟩
                      have hx' := cells_later Hx.out hb'
                      have z0 := cell_at hx' 0 rfl
                      have hb2 := below_step HbA.out hb'
                      rw [← HRG.out]
                      clear hx' hb'
                      by_cases hz : rlF rs k = 0
                      · have e1 : (rlF rs k != 0) = false := by simp [hz]
                        have HN := Lib.hid (Hnext.out hz)
                        clear hz
                        go_wp2_with fail
                        go_roundw
                        case rel => exact ⟨k + 1, by omega, by go_num, by rw [Hlast.out], HN, hb2⟩
                        case measure => simp [intOf]; omega
                      · have e1 : (rlF rs k != 0) = true := by simp [hz]
                        have HN := Lib.hid (Hhit.out hz)
                        clear hz
                        go_wp2_with fail
                        go_ret
                        exact ⟨ret_int HN.out.symm, hb2⟩
      · obtain rfl : k = rs.length := by omega
        have HN := Lib.hid (show chkRl rs = 0 from eachE_none Hm.out H0.out)
        go_wp2_with fail
        go_ret
        exact ⟨ret_int HN.out.symm, hb⟩
  · have HN := Lib.hid (show chkRl rs = 2 by unfold chkRl eachE; rw [if_pos (by omega)])
    go_enter Tryz.func7, Tryz.ntmps7
    go_wp2_with fail
    go_ret
    exact ⟨ret_int HN.out.symm, Below.refl _ _⟩
end Go.Proofs.YtmejjkicagkogaaGreatDoor
