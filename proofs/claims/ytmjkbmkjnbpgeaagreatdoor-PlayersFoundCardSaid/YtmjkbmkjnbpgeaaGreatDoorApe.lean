/- The reference's AppearsFault. -/
import Derived.Test.YtmjkbmkjnbpgeaaGreatDoorApd
import Derived.Test.YtmjkbmkjnbpgeaaGreatDoorFxk
import Derived.Test.YtmjkbmkjnbpgeaaGreatDoorBj
namespace Go.Proofs.YtmjkbmkjnbpgeaaGreatDoor
open Go.RowKit

set_option maxRecDepth 100000 in
set_option maxHeartbeats 1000000 in
/-- slices.Compare on two rows of two strings. -/
theorem cmpStrs2_calls (g g' cap cap' : Nat) (a b c d : ByteArray) (w : World) (h1 : w.cell? ⟨g, 0, none⟩ = some (.string a)) (h2 : w.cell? ⟨g, 1, none⟩ = some (.string b)) (h3 : w.cell? ⟨g', 0, none⟩ = some (.string c)) (h4 : w.cell? ⟨g', 1, none⟩ = some (.string d)) :
    Calls Tryz.prog 98 #[.slice (some ⟨g, 0, none⟩) 2 cap, .slice (some ⟨g', 0, none⟩) 2 cap'] w fun e w' => e = .returned (.int .i64 (firstE [cmpS a c, cmpS b d])) ∧ w = w' := by
  have HR := Lib.hid (show firstE [cmpS a c, cmpS b d] = if cmpS a c = 0 then (if cmpS b d = 0 then 0 else cmpS b d) else cmpS a c from rfl)
  generalize firstE [cmpS a c, cmpS b d] = R at HR ⊢
  have C1 := Lib.hid (cmpStr_calls a c)
  have C2 := Lib.hid (cmpStr_calls b d)
  generalize cmpS a c = x at HR C1
  generalize cmpS b d = y at HR C2
  go_enter Tryz.func98, Tryz.ntmps98
  go_wp2_with fail
  go_loop [11] (fun i => i = .int .i64 0 ∨ (i = .int .i64 1 ∧ x = 0) ∨ (i = .int .i64 2 ∧ x = 0 ∧ y = 0)) (fun i => 2 - (intOf i).toNat)
  case atStart => exact .inl rfl
  case round =>
    rcases hrel with rfl | ⟨rfl, hx⟩ | ⟨rfl, hx, hy⟩
    · go_wp2_with fail
      refine (C1.out _).mono ?_
      rintro e w' ⟨rfl, h⟩
      subst h
      by_cases hx : x = 0
      · subst hx
        go_wp2_with fail
        go_round
        case rel => exact .inr (.inl ⟨rfl, trivial⟩)
        case measure => simp [intOf]
      · have e1 : (x != 0) = true := by simp [hx]
        have Hx := Lib.hid hx
        clear hx
        go_wp2_with fail
        go_ret
        exact ⟨ret_int (by rw [HR.out, if_neg Hx.out]), rfl⟩
    · have Hx := Lib.hid hx
      clear hx
      go_wp2_with fail
      refine (C2.out _).mono ?_
      rintro e w' ⟨rfl, h⟩
      subst h
      by_cases hy : y = 0
      · subst hy
        go_wp2_with fail
        go_round
        case rel => exact .inr (.inr ⟨rfl, Hx.out, trivial⟩)
        case measure => simp [intOf]
      · have e1 : (y != 0) = true := by simp [hy]
        have Hy := Lib.hid hy
        clear hy
        go_wp2_with fail
        go_ret
        exact ⟨ret_int (by rw [HR.out, if_pos Hx.out, if_neg Hy.out]), rfl⟩
    · have Hx := Lib.hid hx
      have Hy := Lib.hid hy
      clear hx hy
      go_wp2_with fail
      go_ret
      exact ⟨ret_int (by rw [HR.out, if_pos Hx.out, if_pos Hy.out]), rfl⟩

def cmpPP (a b : SD) : Int := firstE [cmpS a.player b.player, cmpS a.club b.club]
/-- Does an appearance come too early behind another one? -/
def fallA (o x : SD) : Bool := decide (0 < cmpPP o x) || (decide (cmpPP o x = 0) && decide (x.week ≤ o.week))
/-- What the reference finds wrong with appearance i. -/
def apH (ps : List PD) (ss : List SD) (i : Nat) : Int :=
  let x := stAt ss i
  if hasP ps x.player then
    if keyB x.club then
      if betwB x.week 1 60 then
        if i = 0 then 0 else if fallA (stAt ss (i - 1)) x then 7 else 0
      else 1
    else 5
  else 8
def refAp (ps : List PD) (ss : List SD) : Int := eachE ss.length 2000 (apH ps ss)
section
variable {ps : List PD} {ss : List SD} {k : Nat} {s sp : SD}
theorem apH_who (e : ss[k]? = some s) (h : hasP ps s.player = false) : apH ps ss k = 8 := by unfold apH; simp only [stAt_some e, h]; rfl
theorem apH_key (e : ss[k]? = some s) (h : hasP ps s.player = true) (h1 : keyB s.club = false) : apH ps ss k = 5 := by unfold apH; simp only [stAt_some e, h, h1]; rfl
theorem apH_week (e : ss[k]? = some s) (h : hasP ps s.player = true) (h1 : keyB s.club = true) (h2 : betwB s.week 1 60 = false) : apH ps ss k = 1 := by unfold apH; simp only [stAt_some e, h, h1, h2]; rfl
theorem apH_first (e : ss[k]? = some s) (h : hasP ps s.player = true) (h1 : keyB s.club = true) (h2 : betwB s.week 1 60 = true) (h3 : k = 0) : apH ps ss k = 0 := by unfold apH; simp only [stAt_some e, h, h1, h2, if_pos h3]; rfl
theorem apH_fall (e : ss[k]? = some s) (e' : ss[k - 1]? = some sp) (h : hasP ps s.player = true) (h1 : keyB s.club = true) (h2 : betwB s.week 1 60 = true) (h3 : k ≠ 0) (h4 : fallA sp s = true) : apH ps ss k = 7 := by unfold apH; simp only [stAt_some e, stAt_some e', h, h1, h2, if_neg h3, h4]; rfl
theorem apH_ok (e : ss[k]? = some s) (e' : ss[k - 1]? = some sp) (h : hasP ps s.player = true) (h1 : keyB s.club = true) (h2 : betwB s.week 1 60 = true) (h3 : k ≠ 0) (h4 : fallA sp s = false) : apH ps ss k = 0 := by unfold apH; simp only [stAt_some e, stAt_some e', h, h1, h2, if_neg h3, h4]; rfl
end
set_option maxRecDepth 100000 in
set_option maxHeartbeats 8000000 in
theorem appearsFault_calls (lo lo' : Nat) (pv v : Value) (ps : List PD) (ss : List SD) (w : World) (hp : Plays w lo' pv ps) (hS : Aps w lo v ss) (hss : ∀ s ∈ ss, OkS s) (hn : ss.length ≤ 1000000) :
    Calls Tryz.prog 50 #[pv, v] w (IntBelow (refAp ps ss) w) := by
  obtain ⟨pa, pc, rfl⟩ := plays_shape hp
  rcases aps_at hS with ⟨rfl, rfl⟩ | ⟨g, off, cap, rfl, hlo, hg, hn', hcell⟩
  · clear hp hS
    go_enter Tryz.func50, Tryz.ntmps50
    go_wp2
    refine wp_loop_rounds 1 ?_
    rw [rounds_succ]
    go_wp2
    go_ret
    exact ⟨rfl, Below.refl _ _⟩
  by_cases h5 : 2000 < ss.length
  · have HE := Lib.hid (show refAp ps ss = 2 by unfold refAp eachE; rw [if_pos (by omega)])
    clear hcell hp hS hss
    go_enter Tryz.func50, Tryz.ntmps50
    go_wp2_with fail
    go_ret
    exact ⟨ret_int HE.out.symm, Below.refl _ _⟩
  have HE := Lib.hid (show refAp ps ss = errsTo (apH ps ss) ss.length by unfold refAp eachE; rw [if_neg (by omega)]; rfl)
  have Hc := Lib.hid hcell
  have Hs := Lib.hid (show ∀ (i : Nat) (s : SD), ss[i]? = some s → OkS s from fun i p h => hss p (List.mem_of_getElem? h))
  have HP := Lib.hid hp
  clear hcell hS hss hp
  go_enter Tryz.func50, Tryz.ntmps50
  go_wp2_with fail
  go_loopw [14] (fun i wr => ∃ k : Nat, k ≤ ss.length ∧ i = .int .i64 k ∧ Below w.heap.size w wr ∧ Hid (∀ i, i < k → apH ps ss i = 0)) (fun i _ => ss.length - (intOf i).toNat)
  case atStart => exact ⟨0, Nat.zero_le _, rfl, Below.refl _ _, Lib.hid fun i hi => by omega⟩
  case round =>
    obtain ⟨k, hk, rfl, hb, H0⟩ := hrel
    by_cases hlt : k < ss.length
    · obtain ⟨s, hsk⟩ : ∃ s, ss[k]? = some s := ⟨ss[k], List.getElem?_eq_getElem hlt⟩
      obtain ⟨h0, h1, h2⟩ := Hc.out k s hsk
      have g0 := below_cell hb h0
      have g1 := below_cell hb h1
      have g2 := below_cell hb h2
      obtain ⟨s1, s2, s3, s4⟩ := Hs.out k s hsk
      have Hnext := Lib.hid (show apH ps ss k = 0 → ∀ i, i < k + 1 → apH ps ss i = 0 from fun h i hi => by
        rcases Nat.lt_succ_iff_lt_or_eq.1 hi with h' | rfl
        · exact H0.out i h'
        · exact h)
      have Hhit := Lib.hid (show ∀ x, apH ps ss k = x → x ≠ 0 → refAp ps ss = x from fun x hx h => by rw [HE.out, ← hx]; exact errsTo_hit hlt H0.out (by rw [hx]; exact h))
      have hbo := below_step hb (below_alloc wr (.cells #[.string s.player, .string s.club, .int .i64 s.week] 132))
      have HPo := Lib.hid ((HP.out.below hb).below (below_alloc wr (.cells #[.string s.player, .string s.club, .int .i64 s.week] 132)))
      have HX := Lib.hid (show ∀ w', Below (wr.alloc (.cells #[.string s.player, .string s.club, .int .i64 s.week] 132)).heap.size (wr.alloc (.cells #[.string s.player, .string s.club, .int .i64 s.week] 132)) w' → w'.cell? ⟨wr.heap.size, 0, none⟩ = some (.string s.player) ∧ w'.cell? ⟨wr.heap.size, 1, none⟩ = some (.string s.club) ∧ w'.cell? ⟨wr.heap.size, 2, none⟩ = some (.int .i64 s.week) from fun w' hb' => ⟨below_cell hb' (by rw [World.cell?_alloc_at _ _ _ _ rfl]; rfl), below_cell hb' (by rw [World.cell?_alloc_at _ _ _ _ rfl]; rfl), below_cell hb' (by rw [World.cell?_alloc_at _ _ _ _ rfl]; rfl)⟩)
      have HPrev := Lib.hid (show ∀ w' sp, ss[k - 1]? = some sp → Below (wr.alloc (.cells #[.string s.player, .string s.club, .int .i64 s.week] 132)).heap.size (wr.alloc (.cells #[.string s.player, .string s.club, .int .i64 s.week] 132)) w' → w'.cell? ⟨g, off + (k - 1) * 3, none⟩ = some (.string sp.player) ∧ w'.cell? ⟨g, off + (k - 1) * 3 + 1, none⟩ = some (.string sp.club) ∧ w'.cell? ⟨g, off + (k - 1) * 3 + 2, none⟩ = some (.int .i64 sp.week) from fun w' sp hsp hb' => by
        obtain ⟨q0, q1, q2⟩ := Hc.out (k - 1) sp hsp
        have hbb := below_step hbo hb'
        exact ⟨below_cell hbb q0, below_cell hbb q1, below_cell hbb q2⟩)
      have Hsk := Lib.hid hsk
      clear h0 h1 h2 hsk
      cases hh : hasP ps s.player
      · have HT := Lib.hid (Hhit.out 8 (apH_who Hsk.out hh) (by decide))
        have HH := Lib.hid hh
        clear hh
        go_wp2_with fail
        refine (playerAt_no lo' s.player _ ps _ HPo.out HH.out).mono ?_
        rintro e w1 ⟨rfl, hb1⟩
        obtain ⟨x0, x1, x2⟩ := HX.out w1 hb1
        go_wp2_with fail
        go_ret
        exact ⟨ret_int HT.out.symm, below_step hbo hb1⟩
      · have HH := Lib.hid hh
        clear hh
        go_wp2_with fail
        refine (playerAt_yes lo' s.player _ ps _ HPo.out HH.out).mono ?_
        rintro e w1 ⟨r, rfl, hb1⟩
        obtain ⟨x0, x1, x2⟩ := HX.out w1 hb1
        have hbw := below_step hbo hb1
        go_wp2_with fail
        refine (keyR_calls s.club _ (by omega)).mono ?_
        rintro e w2 ⟨rfl, rfl⟩
        cases hA : keyB s.club
        · have HT := Lib.hid (Hhit.out 5 (apH_key Hsk.out HH.out hA) (by decide))
          clear hA
          go_wp2_with fail
          go_ret
          exact ⟨ret_int HT.out.symm, hbw⟩
        · have HA := Lib.hid hA
          clear hA
          go_wp2_with fail
          refine (weekR_calls _ _).mono ?_
          rintro e w2 ⟨rfl, rfl⟩
          cases hB : betwB s.week 1 60
          · have HT := Lib.hid (Hhit.out 1 (apH_week Hsk.out HH.out HA.out hB) (by decide))
            clear hB
            go_wp2_with fail
            go_ret
            exact ⟨ret_int HT.out.symm, hbw⟩
          · have HB := Lib.hid hB
            clear hB
            by_cases hz : k = 0
            · have Hgo := Lib.hid (Lib.hid (Hnext.out (apH_first Hsk.out HH.out HA.out HB.out hz)))
              have e0 : decide (0 < k) = false := decide_eq_false (by omega)
              clear hz
              go_wp2_with fail
              go_roundw
              case rel => exact ⟨k + 1, by omega, by go_num, hbw, Hgo.out⟩
              case measure => simp [intOf]; omega
            · obtain ⟨sp, hsp⟩ : ∃ sp, ss[k - 1]? = some sp := ⟨_, List.getElem?_eq_getElem (show k - 1 < ss.length by omega)⟩
              have w0 : 0 < k := by omega
              have wr1 : IntKind.i64.wrap ((k : Int) - 1) = ((k - 1 : Nat) : Int) := by rw [IntWalk.i64_in _ (by omega)]; omega
              have wr2 : ((k - 1 : Nat) : Int) < (ss.length : Int) := by omega
              obtain ⟨y0, y1, y2⟩ := HPrev.out w1 sp hsp hb1
              have Hz := Lib.hid hz
              have Hsp := Lib.hid hsp
              obtain ⟨W2, hW2⟩ : ∃ W2, W2 = w1.alloc (.cells #[.string sp.player, .string sp.club, .int .i64 sp.week] 132) := ⟨_, rfl⟩
              have hb2 : Below w1.heap.size w1 W2 := by rw [hW2]; exact below_alloc w1 _
              have v0 : W2.cell? ⟨w1.heap.size, 0, none⟩ = some (.string sp.player) := by rw [hW2, World.cell?_alloc_at _ _ _ _ rfl]; rfl
              have v1 : W2.cell? ⟨w1.heap.size, 1, none⟩ = some (.string sp.club) := by rw [hW2, World.cell?_alloc_at _ _ _ _ rfl]; rfl
              have v2 : W2.cell? ⟨w1.heap.size, 2, none⟩ = some (.int .i64 sp.week) := by rw [hW2, World.cell?_alloc_at _ _ _ _ rfl]; rfl
              have z0 := below_cell hb2 x0
              have z1 := below_cell hb2 x1
              have z2 := below_cell hb2 x2
              have hbx := below_step hbw hb2
              clear hz hsp
              go_upto_region 14 with fail
              rw [← hW2]
              clear hW2 x0 x1 x2 y0 y1 y2 hb2
              have t0 := below_cell (below_alloc W2 (.cells #[.string sp.player, .string sp.club] 9)) z0
              have t1 := below_cell (below_alloc W2 (.cells #[.string sp.player, .string sp.club] 9)) z1
              go_wp2_with fail
              obtain ⟨W4, hW4⟩ : ∃ W4, W4 = (W2.alloc (.cells #[.string sp.player, .string sp.club] 9)).alloc (.cells #[.string s.player, .string s.club] 9) := ⟨_, rfl⟩
              rw [← hW4]
              have hb4 : Below W2.heap.size W2 W4 := by rw [hW4]; exact below2 W2 _ _
              have k1 : W4.cell? ⟨W2.heap.size, 0, none⟩ = some (.string sp.player) := by rw [hW4, World.cell?_alloc_past _ _ _ (by simp), World.cell?_alloc_at _ _ _ _ rfl]; rfl
              have k2 : W4.cell? ⟨W2.heap.size, 1, none⟩ = some (.string sp.club) := by rw [hW4, World.cell?_alloc_past _ _ _ (by simp), World.cell?_alloc_at _ _ _ _ rfl]; rfl
              have k3 : W4.cell? ⟨W2.heap.size + 1, 0, none⟩ = some (.string s.player) := by rw [hW4, World.cell?_alloc_at _ _ _ _ (by simp)]; rfl
              have k4 : W4.cell? ⟨W2.heap.size + 1, 1, none⟩ = some (.string s.club) := by rw [hW4, World.cell?_alloc_at _ _ _ _ (by simp)]; rfl
              have d2 := below_cell hb4 v2
              have e2 := below_cell hb4 z2
              have hb5 := below_step hbx hb4
              clear hW4 v0 v1 v2 z0 z1 z2 t0 t1 hb4 hbx
              refine (cmpStrs2_calls _ _ _ _ _ _ _ _ _ k1 k2 k3 k4).mono ?_
              rintro e w' ⟨rfl, hw'⟩
              subst hw'
              clear k1 k2 k3 k4
              have HC := Lib.hid (show fallA sp s = (decide (0 < firstE [cmpS sp.player s.player, cmpS sp.club s.club]) || (decide (firstE [cmpS sp.player s.player, cmpS sp.club s.club] = 0) && decide (s.week ≤ sp.week))) from rfl)
              generalize firstE [cmpS sp.player s.player, cmpS sp.club s.club] = x at HC ⊢
              by_cases hx1 : 0 < x
              · have HT := Lib.hid (Hhit.out 7 (apH_fall Hsk.out Hsp.out HH.out HA.out HB.out Hz.out (by rw [HC.out, decide_eq_true hx1]; rfl)) (by decide))
                go_wp2_with fail
                go_ret
                exact ⟨ret_int HT.out.symm, hb5⟩
              · have hx1' : decide (0 < x) = false := decide_eq_false hx1
                by_cases hx2 : x = 0
                · by_cases hwk : s.week ≤ sp.week
                  · have HT := Lib.hid (Hhit.out 7 (apH_fall Hsk.out Hsp.out HH.out HA.out HB.out Hz.out (by rw [HC.out, hx1', decide_eq_true hx2, decide_eq_true hwk]; rfl)) (by decide))
                    subst hx2
                    clear hx1
                    go_wp2_with fail
                    go_ret
                    exact ⟨ret_int HT.out.symm, hb5⟩
                  · have Hgo := Lib.hid (Lib.hid (Hnext.out (apH_ok Hsk.out Hsp.out HH.out HA.out HB.out Hz.out (by rw [HC.out, hx1', decide_eq_true hx2, decide_eq_false hwk]; rfl))))
                    have hwk' : sp.week < s.week := by omega
                    have hwk2 : decide (s.week ≤ sp.week) = false := decide_eq_false hwk
                    subst hx2
                    clear hx1 hwk
                    go_wp2_with fail
                    go_roundw
                    case rel => exact ⟨k + 1, by omega, by go_num, hb5, Hgo.out⟩
                    case measure => simp [intOf]; omega
                · have hx2' : (x == 0) = false := by simp [hx2]
                  have Hgo := Lib.hid (Lib.hid (Hnext.out (apH_ok Hsk.out Hsp.out HH.out HA.out HB.out Hz.out (by rw [HC.out, hx1', decide_eq_false hx2]; rfl))))
                  go_wp2_with fail
                  go_roundw
                  case rel => exact ⟨k + 1, by omega, by go_num, hb5, Hgo.out⟩
                  case measure => simp [intOf]; omega
    · obtain rfl : k = ss.length := by omega
      go_wp2_with fail
      go_ret
      exact ⟨ret_int (by rw [HE.out]; exact (errsTo_none H0.out).symm), hb⟩
end Go.Proofs.YtmjkbmkjnbpgeaaGreatDoor
