/- The reference's HealthFault. The reference's FieldableOf. -/
import Derived.Test.YtiedmbgdmafhaaaGreatDoorHdi
import Derived.Test.YtiedmbgdmafhaaaGreatDoorHc
import Derived.Test.YtiedmbgdmafhaaaGreatDoorBj
namespace Go.Proofs.YtiedmbgdmafhaaaGreatDoor
open Go.RowKit

def rangeR (s : HD) : Bool := betwB s.start 1 (s.stop - 1) && decide (s.stop ≤ 61)
/-- Does a health come too early behind another one? -/
def fallB (o x : HD) : Bool := ltS x.player o.player || (beqS x.player o.player && decide (x.start ≤ o.start))
/-- Do two healths overlap? -/
def clashB (o x : HD) : Bool := beqS x.player o.player && decide (x.start < o.stop)
/-- What the reference finds wrong with health i. -/
def hdH (ps : List PD) (hs : List HD) (i : Nat) : Int :=
  let x := hdAt hs i
  if hasP ps x.player then
    if rangeR x then
      if kindB x then
        if i = 0 then 0
        else if fallB (hdAt hs (i - 1)) x then 7 else if clashB (hdAt hs (i - 1)) x then 13 else 0
      else 4
    else 1
  else 8
def refHd (ps : List PD) (hs : List HD) : Int := eachE hs.length 1000 (hdH ps hs)
section
variable {ps : List PD} {hs : List HD} {k : Nat} {s sp : HD}
theorem hdH_who (e : hs[k]? = some s) (h : hasP ps s.player = false) : hdH ps hs k = 8 := by unfold hdH; simp only [hdAt_some e, h]; rfl
theorem hdH_range (e : hs[k]? = some s) (h : hasP ps s.player = true) (h1 : rangeR s = false) : hdH ps hs k = 1 := by unfold hdH; simp only [hdAt_some e, h, h1]; rfl
theorem hdH_kind (e : hs[k]? = some s) (h : hasP ps s.player = true) (h1 : rangeR s = true) (h2 : kindB s = false) : hdH ps hs k = 4 := by unfold hdH; simp only [hdAt_some e, h, h1, h2]; rfl
theorem hdH_first (e : hs[k]? = some s) (h : hasP ps s.player = true) (h1 : rangeR s = true) (h2 : kindB s = true) (h3 : k = 0) : hdH ps hs k = 0 := by unfold hdH; simp only [hdAt_some e, h, h1, h2, if_pos h3]; rfl
theorem hdH_fall (e : hs[k]? = some s) (e' : hs[k - 1]? = some sp) (h : hasP ps s.player = true) (h1 : rangeR s = true) (h2 : kindB s = true) (h3 : k ≠ 0) (h4 : fallB sp s = true) : hdH ps hs k = 7 := by unfold hdH; simp only [hdAt_some e, hdAt_some e', h, h1, h2, if_neg h3, h4]; rfl
theorem hdH_clash (e : hs[k]? = some s) (e' : hs[k - 1]? = some sp) (h : hasP ps s.player = true) (h1 : rangeR s = true) (h2 : kindB s = true) (h3 : k ≠ 0) (h4 : fallB sp s = false) (h5 : clashB sp s = true) : hdH ps hs k = 13 := by unfold hdH; simp only [hdAt_some e, hdAt_some e', h, h1, h2, if_neg h3, h4, h5]; rfl
theorem hdH_ok (e : hs[k]? = some s) (e' : hs[k - 1]? = some sp) (h : hasP ps s.player = true) (h1 : rangeR s = true) (h2 : kindB s = true) (h3 : k ≠ 0) (h4 : fallB sp s = false) (h5 : clashB sp s = false) : hdH ps hs k = 0 := by unfold hdH; simp only [hdAt_some e, hdAt_some e', h, h1, h2, if_neg h3, h4, h5]; rfl
end
set_option maxRecDepth 100000 in
set_option maxHeartbeats 8000000 in
theorem healthFault_calls (lo lo' : Nat) (pv v : Value) (ps : List PD) (hs : List HD) (w : World) (hp : Plays w lo' pv ps) (hH : Hds w lo v hs) (hok : ∀ h ∈ hs, OkH h) (hn : hs.length ≤ 1000000) :
    Calls Tryz.prog 33 #[pv, v] w (IntBelow (refHd ps hs) w) := by
  obtain ⟨pa, pc, rfl⟩ := plays_shape hp
  rcases hds_at hH with ⟨rfl, rfl⟩ | ⟨g, off, cap, rfl, hlo, hg, hn', hcell⟩
  · clear hp hH
    go_enter Tryz.func33, Tryz.ntmps33
    go_wp2
    refine wp_loop_rounds 1 ?_
    rw [rounds_succ]
    go_wp2
    go_ret
    exact ⟨rfl, Below.refl _ _⟩
  by_cases h5 : 1000 < hs.length
  · have HE := Lib.hid (show refHd ps hs = 2 by unfold refHd eachE; rw [if_pos (by omega)])
    clear hcell hp hH hok
    go_enter Tryz.func33, Tryz.ntmps33
    go_wp2_with fail
    go_ret
    exact ⟨ret_int HE.out.symm, Below.refl _ _⟩
  have HE := Lib.hid (show refHd ps hs = errsTo (hdH ps hs) hs.length by unfold refHd eachE; rw [if_neg (by omega)]; rfl)
  have Hc := Lib.hid hcell
  have Hs := Lib.hid (show ∀ (i : Nat) (s : HD), hs[i]? = some s → OkH s from fun i p h => hok p (List.mem_of_getElem? h))
  have HP := Lib.hid hp
  clear hcell hH hok hp
  go_enter Tryz.func33, Tryz.ntmps33
  go_wp2_with fail
  go_loopw [13] (fun i wr => ∃ k : Nat, k ≤ hs.length ∧ i = .int .i64 k ∧ Below w.heap.size w wr ∧ Hid (∀ i, i < k → hdH ps hs i = 0)) (fun i _ => hs.length - (intOf i).toNat)
  case atStart => exact ⟨0, Nat.zero_le _, rfl, Below.refl _ _, Lib.hid fun i hi => by omega⟩
  case round =>
    obtain ⟨k, hk, rfl, hb, H0⟩ := hrel
    by_cases hlt : k < hs.length
    · obtain ⟨s, hsk⟩ : ∃ s, hs[k]? = some s := ⟨hs[k], List.getElem?_eq_getElem hlt⟩
      obtain ⟨h0, h1, h2, h3⟩ := Hc.out k s hsk
      have g0 := below_cell hb h0
      have g1 := below_cell hb h1
      have g2 := below_cell hb h2
      have g3 := below_cell hb h3
      obtain ⟨s1, s2, s3, s4, s5, -⟩ := Hs.out k s hsk
      have Hnext := Lib.hid (show hdH ps hs k = 0 → ∀ i, i < k + 1 → hdH ps hs i = 0 from fun h i hi => by
        rcases Nat.lt_succ_iff_lt_or_eq.1 hi with h' | rfl
        · exact H0.out i h'
        · exact h)
      have Hhit := Lib.hid (show ∀ x, hdH ps hs k = x → x ≠ 0 → refHd ps hs = x from fun x hx h => by rw [HE.out, ← hx]; exact errsTo_hit hlt H0.out (by rw [hx]; exact h))
      have hbo := below_step hb (below_alloc wr (.cells #[.string s.player, .int .i64 s.start, .int .i64 s.stop, .int .i64 s.kind] 126))
      have HPo := Lib.hid ((HP.out.below hb).below (below_alloc wr (.cells #[.string s.player, .int .i64 s.start, .int .i64 s.stop, .int .i64 s.kind] 126)))
      have HX := Lib.hid (show ∀ w', Below (wr.alloc (.cells #[.string s.player, .int .i64 s.start, .int .i64 s.stop, .int .i64 s.kind] 126)).heap.size (wr.alloc (.cells #[.string s.player, .int .i64 s.start, .int .i64 s.stop, .int .i64 s.kind] 126)) w' → w'.cell? ⟨wr.heap.size, 0, none⟩ = some (.string s.player) ∧ w'.cell? ⟨wr.heap.size, 1, none⟩ = some (.int .i64 s.start) ∧ w'.cell? ⟨wr.heap.size, 2, none⟩ = some (.int .i64 s.stop) ∧ w'.cell? ⟨wr.heap.size, 3, none⟩ = some (.int .i64 s.kind) from fun w' hb' => ⟨below_cell hb' (by rw [World.cell?_alloc_at _ _ _ _ rfl]; rfl), below_cell hb' (by rw [World.cell?_alloc_at _ _ _ _ rfl]; rfl), below_cell hb' (by rw [World.cell?_alloc_at _ _ _ _ rfl]; rfl), below_cell hb' (by rw [World.cell?_alloc_at _ _ _ _ rfl]; rfl)⟩)
      have HPrev := Lib.hid (show ∀ w' sp, hs[k - 1]? = some sp → Below (wr.alloc (.cells #[.string s.player, .int .i64 s.start, .int .i64 s.stop, .int .i64 s.kind] 126)).heap.size (wr.alloc (.cells #[.string s.player, .int .i64 s.start, .int .i64 s.stop, .int .i64 s.kind] 126)) w' → w'.cell? ⟨g, off + (k - 1) * 4, none⟩ = some (.string sp.player) ∧ w'.cell? ⟨g, off + (k - 1) * 4 + 1, none⟩ = some (.int .i64 sp.start) ∧ w'.cell? ⟨g, off + (k - 1) * 4 + 2, none⟩ = some (.int .i64 sp.stop) ∧ w'.cell? ⟨g, off + (k - 1) * 4 + 3, none⟩ = some (.int .i64 sp.kind) from fun w' sp hsp hb' => by
        obtain ⟨q0, q1, q2, q3⟩ := Hc.out (k - 1) sp hsp
        have hbb := below_step hbo hb'
        exact ⟨below_cell hbb q0, below_cell hbb q1, below_cell hbb q2, below_cell hbb q3⟩)
      have Hsk := Lib.hid hsk
      have hwr : IntKind.i64.wrap (s.stop - 1) = s.stop - 1 := IntWalk.i64_in _ (by omega)
      clear h0 h1 h2 h3 hsk
      cases hh : hasP ps s.player
      · have HT := Lib.hid (Hhit.out 8 (hdH_who Hsk.out hh) (by decide))
        have HH := Lib.hid hh
        clear hh
        go_wp2_with fail
        refine (playerAt_no lo' s.player _ ps _ HPo.out HH.out).mono ?_
        rintro e w1 ⟨rfl, hb1⟩
        obtain ⟨x0, x1, x2, x3⟩ := HX.out w1 hb1
        go_wp2_with fail
        go_ret
        exact ⟨ret_int HT.out.symm, below_step hbo hb1⟩
      · have HH := Lib.hid hh
        have HRg := Lib.hid (show rangeR s = (betwB s.start 1 (s.stop - 1) && decide (s.stop ≤ 61)) from rfl)
        have HKd := Lib.hid (show kindB s = ((s.kind == 1) || (s.kind == 2)) from rfl)
        clear hh
        go_wp2_with fail
        refine (playerAt_yes lo' s.player _ ps _ HPo.out HH.out).mono ?_
        rintro e w1 ⟨r, rfl, hb1⟩
        obtain ⟨x0, x1, x2, x3⟩ := HX.out w1 hb1
        go_wp2_with fail
        refine (in_calls _ _ _ _).mono ?_
        rintro e w2 ⟨rfl, rfl⟩
        have hbw := below_step hbo hb1
        by_cases hA : betwB s.start 1 (s.stop - 1) = true
        · rw [hA]
          by_cases h61 : s.stop ≤ 61
          · have h61' : decide (61 < s.stop) = false := decide_eq_false (by omega)
            have HR := Lib.hid (show rangeR s = true by rw [HRg.out, hA, decide_eq_true h61]; rfl)
            clear hA
            by_cases hk1 : s.kind = 1
            · have e1 : (s.kind != 1) = false := by simp [hk1]
              have HK := Lib.hid (show kindB s = true by rw [HKd.out, hk1]; rfl)
              clear hk1
              by_cases hz : k = 0
              · have Hgo := Lib.hid (Lib.hid (Hnext.out (hdH_first Hsk.out HH.out HR.out HK.out hz)))
                have e0 : ((k : Int) == 0) = true := by rw [beq_iff_eq]; omega
                clear hz
                go_wp2_with fail
                go_roundw
                case rel => exact ⟨k + 1, by omega, by go_num, hbw, Hgo.out⟩
                case measure => simp [intOf]; omega
              · obtain ⟨sp, hsp⟩ : ∃ sp, hs[k - 1]? = some sp := ⟨_, List.getElem?_eq_getElem (show k - 1 < hs.length by omega)⟩
                have e0 : ((k : Int) == 0) = false := by rw [beq_eq_false_iff_ne]; omega
                have wr1 : IntKind.i64.wrap ((k : Int) - 1) = ((k - 1 : Nat) : Int) := by rw [IntWalk.i64_in _ (by omega)]; omega
                have wr2 : ((k - 1 : Nat) : Int) < (hs.length : Int) := by omega
                obtain ⟨y0, y1, y2, y3⟩ := HPrev.out w1 sp hsp hb1
                have Hz := Lib.hid hz
                have Hsp := Lib.hid hsp
                have HFa := Lib.hid (show fallB sp s = (ltS s.player sp.player || (beqS s.player sp.player && decide (s.start ≤ sp.start))) from rfl)
                have HCl := Lib.hid (show clashB sp s = (beqS s.player sp.player && decide (s.start < sp.stop)) from rfl)
                obtain ⟨W2, hW2⟩ : ∃ W2, W2 = w1.alloc (.cells #[.string sp.player, .int .i64 sp.start, .int .i64 sp.stop, .int .i64 sp.kind] 126) := ⟨_, rfl⟩
                have hb2 : Below w1.heap.size w1 W2 := by rw [hW2]; exact below_alloc w1 _
                have v0 : W2.cell? ⟨w1.heap.size, 0, none⟩ = some (.string sp.player) := by rw [hW2, World.cell?_alloc_at _ _ _ _ rfl]; rfl
                have v1 : W2.cell? ⟨w1.heap.size, 1, none⟩ = some (.int .i64 sp.start) := by rw [hW2, World.cell?_alloc_at _ _ _ _ rfl]; rfl
                have v2 : W2.cell? ⟨w1.heap.size, 2, none⟩ = some (.int .i64 sp.stop) := by rw [hW2, World.cell?_alloc_at _ _ _ _ rfl]; rfl
                have z0 := below_cell hb2 x0
                have z1 := below_cell hb2 x1
                have hbx := below_step hbw hb2
                clear hz hsp
                go_upto_region 14 with fail
                rw [← hW2]
                clear hW2 x0 x1 x2 x3 y0 y1 y2 y3 hb2
                cases hl : ltS s.player sp.player
                · have el : Op.bytesLess s.player.toList sp.player.toList = false := hl
                  cases he : beqS s.player sp.player
                  · have ee : (s.player.toList == sp.player.toList) = false := he
                    have Hgo := Lib.hid (Lib.hid (Hnext.out (hdH_ok Hsk.out Hsp.out HH.out HR.out HK.out Hz.out (by rw [HFa.out, hl, he]; rfl) (by rw [HCl.out, he]; rfl))))
                    clear hl he
                    go_wp2_with fail
                    go_roundw
                    case rel => exact ⟨k + 1, by omega, by go_num, hbx, Hgo.out⟩
                    case measure => simp [intOf]; omega
                  · have ee : (s.player.toList == sp.player.toList) = true := he
                    by_cases hwk : s.start ≤ sp.start
                    · have ew : decide (s.start ≤ sp.start) = true := decide_eq_true hwk
                      have HT := Lib.hid (Hhit.out 7 (hdH_fall Hsk.out Hsp.out HH.out HR.out HK.out Hz.out (by rw [HFa.out, hl, he, ew]; rfl)) (by decide))
                      clear hl he
                      go_wp2_with fail
                      go_ret
                      exact ⟨ret_int HT.out.symm, hbx⟩
                    · have ew : decide (s.start ≤ sp.start) = false := decide_eq_false hwk
                      have ew' : sp.start < s.start := by omega
                      have HFF := Lib.hid (show fallB sp s = false by rw [HFa.out, hl, he, ew]; rfl)
                      clear hl hwk
                      by_cases hc : s.start < sp.stop
                      · have ec : decide (s.start < sp.stop) = true := decide_eq_true hc
                        have HT := Lib.hid (Hhit.out 13 (hdH_clash Hsk.out Hsp.out HH.out HR.out HK.out Hz.out HFF.out (by rw [HCl.out, he, ec]; rfl)) (by decide))
                        clear he
                        go_wp2_with fail
                        go_ret
                        exact ⟨ret_int HT.out.symm, hbx⟩
                      · have ec : decide (s.start < sp.stop) = false := decide_eq_false hc
                        have ec' : sp.stop ≤ s.start := by omega
                        have Hgo := Lib.hid (Lib.hid (Hnext.out (hdH_ok Hsk.out Hsp.out HH.out HR.out HK.out Hz.out HFF.out (by rw [HCl.out, he, ec]; rfl))))
                        clear he hc
                        go_wp2_with fail
                        go_roundw
                        case rel => exact ⟨k + 1, by omega, by go_num, hbx, Hgo.out⟩
                        case measure => simp [intOf]; omega
                · have el : Op.bytesLess s.player.toList sp.player.toList = true := hl
                  have HT := Lib.hid (Hhit.out 7 (hdH_fall Hsk.out Hsp.out HH.out HR.out HK.out Hz.out (by rw [HFa.out, hl]; rfl)) (by decide))
                  clear hl
                  go_wp2_with fail
                  go_ret
                  exact ⟨ret_int HT.out.symm, hbx⟩
            · have e1 : (s.kind != 1) = true := by simp [hk1]
              by_cases hk2 : s.kind = 2
              · have e2 : (s.kind != 2) = false := by simp [hk2]
                have HK := Lib.hid (show kindB s = true by rw [HKd.out, hk2]; rfl)
                clear hk1 hk2
                by_cases hz : k = 0
                · have Hgo := Lib.hid (Lib.hid (Hnext.out (hdH_first Hsk.out HH.out HR.out HK.out hz)))
                  have e0 : ((k : Int) == 0) = true := by rw [beq_iff_eq]; omega
                  clear hz
                  go_wp2_with fail
                  go_roundw
                  case rel => exact ⟨k + 1, by omega, by go_num, hbw, Hgo.out⟩
                  case measure => simp [intOf]; omega
                · obtain ⟨sp, hsp⟩ : ∃ sp, hs[k - 1]? = some sp := ⟨_, List.getElem?_eq_getElem (show k - 1 < hs.length by omega)⟩
                  have e0 : ((k : Int) == 0) = false := by rw [beq_eq_false_iff_ne]; omega
                  have wr1 : IntKind.i64.wrap ((k : Int) - 1) = ((k - 1 : Nat) : Int) := by rw [IntWalk.i64_in _ (by omega)]; omega
                  have wr2 : ((k - 1 : Nat) : Int) < (hs.length : Int) := by omega
                  obtain ⟨y0, y1, y2, y3⟩ := HPrev.out w1 sp hsp hb1
                  have Hz := Lib.hid hz
                  have Hsp := Lib.hid hsp
                  have HFa := Lib.hid (show fallB sp s = (ltS s.player sp.player || (beqS s.player sp.player && decide (s.start ≤ sp.start))) from rfl)
                  have HCl := Lib.hid (show clashB sp s = (beqS s.player sp.player && decide (s.start < sp.stop)) from rfl)
                  obtain ⟨W2, hW2⟩ : ∃ W2, W2 = w1.alloc (.cells #[.string sp.player, .int .i64 sp.start, .int .i64 sp.stop, .int .i64 sp.kind] 126) := ⟨_, rfl⟩
                  have hb2 : Below w1.heap.size w1 W2 := by rw [hW2]; exact below_alloc w1 _
                  have v0 : W2.cell? ⟨w1.heap.size, 0, none⟩ = some (.string sp.player) := by rw [hW2, World.cell?_alloc_at _ _ _ _ rfl]; rfl
                  have v1 : W2.cell? ⟨w1.heap.size, 1, none⟩ = some (.int .i64 sp.start) := by rw [hW2, World.cell?_alloc_at _ _ _ _ rfl]; rfl
                  have v2 : W2.cell? ⟨w1.heap.size, 2, none⟩ = some (.int .i64 sp.stop) := by rw [hW2, World.cell?_alloc_at _ _ _ _ rfl]; rfl
                  have z0 := below_cell hb2 x0
                  have z1 := below_cell hb2 x1
                  have hbx := below_step hbw hb2
                  clear hz hsp
                  go_upto_region 14 with fail
                  rw [← hW2]
                  clear hW2 x0 x1 x2 x3 y0 y1 y2 y3 hb2
                  cases hl : ltS s.player sp.player
                  · have el : Op.bytesLess s.player.toList sp.player.toList = false := hl
                    cases he : beqS s.player sp.player
                    · have ee : (s.player.toList == sp.player.toList) = false := he
                      have Hgo := Lib.hid (Lib.hid (Hnext.out (hdH_ok Hsk.out Hsp.out HH.out HR.out HK.out Hz.out (by rw [HFa.out, hl, he]; rfl) (by rw [HCl.out, he]; rfl))))
                      clear hl he
                      go_wp2_with fail
                      go_roundw
                      case rel => exact ⟨k + 1, by omega, by go_num, hbx, Hgo.out⟩
                      case measure => simp [intOf]; omega
                    · have ee : (s.player.toList == sp.player.toList) = true := he
                      by_cases hwk : s.start ≤ sp.start
                      · have ew : decide (s.start ≤ sp.start) = true := decide_eq_true hwk
                        have HT := Lib.hid (Hhit.out 7 (hdH_fall Hsk.out Hsp.out HH.out HR.out HK.out Hz.out (by rw [HFa.out, hl, he, ew]; rfl)) (by decide))
                        clear hl he
                        go_wp2_with fail
                        go_ret
                        exact ⟨ret_int HT.out.symm, hbx⟩
                      · have ew : decide (s.start ≤ sp.start) = false := decide_eq_false hwk
                        have ew' : sp.start < s.start := by omega
                        have HFF := Lib.hid (show fallB sp s = false by rw [HFa.out, hl, he, ew]; rfl)
                        clear hl hwk
                        by_cases hc : s.start < sp.stop
                        · have ec : decide (s.start < sp.stop) = true := decide_eq_true hc
                          have HT := Lib.hid (Hhit.out 13 (hdH_clash Hsk.out Hsp.out HH.out HR.out HK.out Hz.out HFF.out (by rw [HCl.out, he, ec]; rfl)) (by decide))
                          clear he
                          go_wp2_with fail
                          go_ret
                          exact ⟨ret_int HT.out.symm, hbx⟩
                        · have ec : decide (s.start < sp.stop) = false := decide_eq_false hc
                          have ec' : sp.stop ≤ s.start := by omega
                          have Hgo := Lib.hid (Lib.hid (Hnext.out (hdH_ok Hsk.out Hsp.out HH.out HR.out HK.out Hz.out HFF.out (by rw [HCl.out, he, ec]; rfl))))
                          clear he hc
                          go_wp2_with fail
                          go_roundw
                          case rel => exact ⟨k + 1, by omega, by go_num, hbx, Hgo.out⟩
                          case measure => simp [intOf]; omega
                  · have el : Op.bytesLess s.player.toList sp.player.toList = true := hl
                    have HT := Lib.hid (Hhit.out 7 (hdH_fall Hsk.out Hsp.out HH.out HR.out HK.out Hz.out (by rw [HFa.out, hl]; rfl)) (by decide))
                    clear hl
                    go_wp2_with fail
                    go_ret
                    exact ⟨ret_int HT.out.symm, hbx⟩
              · have e2 : (s.kind != 2) = true := by simp [hk2]
                have HT := Lib.hid (Hhit.out 4 (hdH_kind Hsk.out HH.out HR.out (by rw [HKd.out]; simp [hk1, hk2])) (by decide))
                clear hk1 hk2
                go_wp2_with fail
                go_ret
                exact ⟨ret_int HT.out.symm, hbw⟩
          · have h61' : decide (61 < s.stop) = true := decide_eq_true (by omega)
            have HT := Lib.hid (Hhit.out 1 (hdH_range Hsk.out HH.out (by rw [HRg.out, decide_eq_false h61, Bool.and_false])) (by decide))
            have h61'' : 61 < s.stop := by omega
            clear hA h61
            go_wp2_with fail
            go_ret
            exact ⟨ret_int HT.out.symm, hbw⟩
        · rw [show betwB s.start 1 (s.stop - 1) = false by simpa using hA]
          have HT := Lib.hid (Hhit.out 1 (hdH_range Hsk.out HH.out (by rw [HRg.out, show betwB s.start 1 (s.stop - 1) = false by simpa using hA, Bool.false_and])) (by decide))
          clear hA
          go_wp2_with fail
          go_ret
          exact ⟨ret_int HT.out.symm, hbw⟩
    · obtain rfl : k = hs.length := by omega
      go_wp2_with fail
      go_ret
      exact ⟨ret_int (by rw [HE.out]; exact (errsTo_none H0.out).symm), hb⟩
end Go.Proofs.YtiedmbgdmafhaaaGreatDoor
namespace Go.Proofs.YtiedmbgdmafhaaaGreatDoor
open Go.RowKit

/-- Can somebody be fielded, whose first game and state are these? -/
def pickB (o : Option Int) (st at' : Int) : Bool := o.isSome && (decide (at' < o.getD 0) && (st != 2))
set_option maxRecDepth 100000 in
set_option maxHeartbeats 4000000 in
theorem fieldableOf_calls (lo l1 l2 l3 : Nat) (m : Nat) (at' : Int) (v sv hv fv : Value) (ps : List PD) (ss : List SD) (hs : List HD) (fs : List FD) (w : World) (hp : Plays w lo v ps) (hS : Sts w l1 sv ss) (hH : Hds w l2 hv hs) (hF : Fxs w l3 fv fs) (hn : ss.length ≤ 1000000) (hhn : hs.length ≤ 1000000) (hfn : fs.length ≤ 10000) (hm : m ≤ 1000) :
    Calls Tryz.prog 38 #[v, sv, hv, fv, .int .i64 (m : Int), .int .i64 at'] w (MadeS (thoseL (fun p => pickB (firstP fs (clubN ss p.key m) m) (stateO hs p.key m) at') ps) w) := by
  obtain ⟨i0, hi, hz0, hz1, hz2⟩ := info_parts info_str
  have HS := Lib.hid (show ∀ w', Below w.heap.size w w' → Sts w' l1 sv ss ∧ Hds w' l2 hv hs ∧ Fxs w' l3 fv fs from fun w' hb => ⟨hS.below hb, hH.below hb, hF.below hb⟩)
  obtain ⟨sa, sc, rfl⟩ := sts_shape hS
  obtain ⟨ha, hc, rfl⟩ := hds_shape hH
  obtain ⟨fa, fc, rfl⟩ := fxs_shape hF
  clear hS hH hF
  have CF := Lib.hid (fun w' hb key => firstOf_calls l1 l3 _ _ ss fs key m w' (HS.out w' hb).1 (HS.out w' hb).2.2 hn hfn hm)
  have CS := Lib.hid (fun w' hb key => stateOf_calls l2 _ hs key m w' (HS.out w' hb).2.1 hhn)
  clear HS
  rcases plays_at hp with ⟨rfl, rfl⟩ | ⟨gg, off, cap, rfl, hlo, hg, hnn, hcell⟩
  · clear hp hi hz0 hz1 hz2 CF CS
    go_enter Tryz.func38, Tryz.ntmps38
    go_wp2
    refine wp_loop_rounds 1 ?_
    rw [rounds_succ]
    go_wp2
    go_ret
    exact ⟨_, World.ownsRow_nil _ _ _ _, rfl, Below.refl _ _⟩
  · have Hc := Lib.hid hcell
    clear hp hcell
    obtain ⟨f, hf⟩ : ∃ f, f = (fun p : PD => pickB (firstP fs (clubN ss p.key m) m) (stateO hs p.key m) at') := ⟨_, rfl⟩
    rw [← hf]
    have HF := Lib.hid (show ∀ p : PD, f p = pickB (firstP fs (clubN ss p.key m) m) (stateO hs p.key m) at' from fun p => by rw [hf])
    clear hf
    go_enter Tryz.func38, Tryz.ntmps38
    go_wp2_with fail
    go_loopw [13, 20] (fun out i wr => ∃ k : Nat, k ≤ ps.length ∧ i = .int .i64 k ∧ OwnS wr w.heap.size out (thoseL f (ps.take k)) ∧ Below w.heap.size w wr) (fun _ i _ => ps.length - (intOf i).toNat)
    case atStart => exact ⟨0, Nat.zero_le _, rfl, World.ownsRow_nil _ _ _ _, Below.refl _ _⟩
    case round =>
      obtain ⟨k, hk, rfl, hown, hb⟩ := hrel
      by_cases hlt : k < ps.length
      · obtain ⟨p, hpk⟩ : ∃ p, ps[k]? = some p := ⟨ps[k], List.getElem?_eq_getElem hlt⟩
        obtain ⟨pv, h0, h1, h2, h3⟩ := Hc.out k p hpk
        have g0 := below_cell hb h0
        have g1 := below_cell hb h1
        have g2 := below_cell hb h2
        obtain ⟨qa, qc, rfl⟩ := strs_shape h3
        have Hs := Lib.hid (thoseL_snoc f hpk)
        have hle := Lib.hid (thoseL_le f (ps.take k))
        have Hf := Lib.hid (HF.out p)
        have hbo := below_step hb (below_alloc wr (.cells #[.string p.key, .string p.name, .slice qa p.pos.length qc] 86))
        have d0 := show (wr.alloc (.cells #[.string p.key, .string p.name, .slice qa p.pos.length qc] 86)).cell? ⟨wr.heap.size, 0, none⟩ = some (.string p.key) by rw [World.cell?_alloc_at _ _ _ _ rfl]; rfl
        have C1 := Lib.hid (CF.out _ hbo p.key)
        have C2 := Lib.hid (fun w' hb' => CS.out w' (below_step hbo hb') p.key)
        have hown0 := World.ownsRow.alloc hown (.cells #[.string p.key, .string p.name, .slice qa p.pos.length qc] 86)
        generalize firstP fs (clubN ss p.key m) m = O at C1 Hf
        generalize stateO hs p.key m = st at C2 Hf
        clear hpk h0 h1 h2 h3 hown
        cases O with
        | none =>
          have Hs' := Lib.hid (show thoseL f (ps.take (k + 1)) = thoseL f (ps.take k) by rw [Hs.out, Hf.out]; simp [pickB])
          go_wp2_with fail
          refine C1.out.mono ?_
          rintro e w1 ⟨rfl, hb1⟩
          have hown1 : OwnS w1 w.heap.size u13 (thoseL f (ps.take k)) := hown0.kept (gb_below hb1 none) (by cases hv : Value.ownBlock _ <;> simp)
          have hbw1 := below_step hbo hb1
          clear C1 C2 d0 hown0 hbo g0 g1 g2
          go_wp2_with fail
          go_roundw
          case rel => exact ⟨k + 1, by omega, by go_num, by rw [Hs'.out]; exact hown1, hbw1⟩
          case measure => simp [intOf]; omega
        | some x =>
          have HP := Lib.hid (show f p = (decide (at' < x) && (st != 2)) from Hf.out)
          clear Hf
          by_cases hx : at' < x
          · have hx1 : decide (at' < x) = true := decide_eq_true hx
            cases h2 : st == 2
            · have h2' : (st != 2) = true := by rw [bne, h2]; rfl
              have Hs' := Lib.hid (show thoseL f (ps.take (k + 1)) = thoseL f (ps.take k) ++ [p.key] by rw [Hs.out, HP.out, hx1, h2']; simp)
              go_wp2_with fail
              refine C1.out.mono ?_
              rintro e w1 ⟨rfl, hb1⟩
              simp only [Option.getD_some, Option.isSome_some]
              have d1 := below_cell hb1 d0
              have hown1 := hown0.kept (gb_below hb1 none) (by cases hv : Value.ownBlock _ <;> simp)
              have C3 := Lib.hid (C2.out w1 hb1)
              have hbw1 := below_step hbo hb1
              clear C1 C2 d0 hown0 hbo g0 g1 g2
              go_wp2_with fail
              refine C3.out.mono ?_
              rintro e w2 ⟨rfl, hb2⟩
              have d2 := below_cell hb2 d1
              have hown2 : OwnS w2 w.heap.size u13 (thoseL f (ps.take k)) := hown1.kept (gb_below hb2 none) (by cases hv : Value.ownBlock _ <;> simp)
              have hbw2 := below_step hbw1 hb2
              clear C3 d1 hown1 hbw1 hb1 hb2
              have hl : (thoseL f (ps.take k)).length ≤ 1000000 := by have := hle.out; have := List.length_take_le k ps; omega
              go_wp2_with (at_builtin; refine wpList_append_own _ rfl _ _ 35 rfl w.heap.size 9 i0 (.string ⟨#[]⟩) 1 16 Tryz.underlying35 hi hz0 hz1 hz2 rfl (by decide) _ _ _ rfl (World.ownsRow.alloc hown2 _) ⟨w2.heap.size, 0, none⟩ 1 1 [.string p.key] rfl rfl ?c1 ?c2 ?c3 ?c4 ?c5 ?_)
              case c1 => exact cell_one_new _ _ _
              case c2 => simp [Value.oneCell']
              case c3 => unfold maxLen; omega
              case c4 => omega
              case c5 => have := hbw2.size; simp; omega
              intro v' w3 hown3 hgrow _
              have hown3' : OwnS w3 w.heap.size v' (thoseL f (ps.take k) ++ [p.key]) := by unfold OwnS; simpa using hown3
              have hbw3 : Below w.heap.size w w3 := (below_step hbw2 (below_alloc w2 _)).grown hgrow (by have := hbw2.size; simp; omega) fun r hr => (own_block hown2 r hr).1
              clear hown3 hgrow
              go_wp2_with fail
              go_roundw
              case rel => exact ⟨k + 1, by omega, by go_num, by rw [Hs'.out]; exact hown3', hbw3⟩
              case measure => simp [intOf]; omega
            · have h2' : (st != 2) = false := by rw [bne, h2]; rfl
              have Hs' := Lib.hid (show thoseL f (ps.take (k + 1)) = thoseL f (ps.take k) by rw [Hs.out, HP.out, hx1, h2']; simp)
              go_wp2_with fail
              refine C1.out.mono ?_
              rintro e w1 ⟨rfl, hb1⟩
              simp only [Option.getD_some, Option.isSome_some]
              have d1 := below_cell hb1 d0
              have hown1 := hown0.kept (gb_below hb1 none) (by cases hv : Value.ownBlock _ <;> simp)
              have C3 := Lib.hid (C2.out w1 hb1)
              have hbw1 := below_step hbo hb1
              clear C1 C2 d0 hown0 hbo g0 g1 g2
              go_wp2_with fail
              refine C3.out.mono ?_
              rintro e w2 ⟨rfl, hb2⟩
              have hown2 : OwnS w2 w.heap.size u13 (thoseL f (ps.take k)) := hown1.kept (gb_below hb2 none) (by cases hv : Value.ownBlock _ <;> simp)
              have hbw2 := below_step hbw1 hb2
              clear C3 d1 hown1 hbw1 hb1 hb2
              go_wp2_with fail
              go_roundw
              case rel => exact ⟨k + 1, by omega, by go_num, by rw [Hs'.out]; exact hown2, hbw2⟩
              case measure => simp [intOf]; omega
          · have hx1 : decide (at' < x) = false := decide_eq_false hx
            have Hs' := Lib.hid (show thoseL f (ps.take (k + 1)) = thoseL f (ps.take k) by rw [Hs.out, HP.out, hx1]; simp)
            go_wp2_with fail
            refine C1.out.mono ?_
            rintro e w1 ⟨rfl, hb1⟩
            simp only [Option.getD_some, Option.isSome_some]
            have hown1 : OwnS w1 w.heap.size u13 (thoseL f (ps.take k)) := hown0.kept (gb_below hb1 none) (by cases hv : Value.ownBlock _ <;> simp)
            have hbw1 := below_step hbo hb1
            clear C1 C2 d0 hown0 hbo g0 g1 g2
            go_wp2_with fail
            go_roundw
            case rel => exact ⟨k + 1, by omega, by go_num, by rw [Hs'.out]; exact hown1, hbw1⟩
            case measure => simp [intOf]; omega
      · obtain rfl : k = ps.length := by omega
        have hT := Lib.hid (List.take_length (l := ps))
        go_wp2_with fail
        go_ret
        exact ⟨_, by rw [hT.out] at hown; exact hown, rfl, hb⟩
end Go.Proofs.YtiedmbgdmafhaaaGreatDoor
