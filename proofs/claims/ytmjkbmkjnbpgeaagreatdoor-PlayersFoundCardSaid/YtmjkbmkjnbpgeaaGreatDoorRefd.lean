/- The reference's StintsFault. -/
import Derived.Test.YtmjkbmkjnbpgeaaGreatDoorBi
namespace Go.Proofs.YtmjkbmkjnbpgeaaGreatDoor
open Go.RowKit

/-- What is wrong with stint i, where the players need no order. -/
def stH (ps : List PD) (ss : List SD) (i : Nat) : Int :=
  firstE [unlessE (hasP ps (stAt ss i).player) 8, unlessE (decide ((stAt ss i).club.size = 0) || keyB (stAt ss i).club) 5, unlessE (betwB (stAt ss i).week 1 60) 1, unlessE (decide (i = 0) || decide (cmpSt (stAt ss (i - 1)) (stAt ss i) < 0)) 7]
def refSt (ps : List PD) (ss : List SD) : Int := eachE ss.length 1000 (stH ps ss)
def clubOk (s : SD) : Bool := decide (s.club.size = 0) || keyB s.club
theorem stH_who {ps : List PD} {ss : List SD} {k : Nat} {s : SD} (hs : ss[k]? = some s) (h : hasP ps s.player = false) : stH ps ss k = 8 := by
  unfold stH; rw [stAt_some hs, h]; simp [firstE, unlessE]
theorem stH_club {ps : List PD} {ss : List SD} {k : Nat} {s : SD} (hs : ss[k]? = some s) (h : hasP ps s.player = true) (hc : clubOk s = false) : stH ps ss k = 5 := by
  unfold clubOk at hc; unfold stH; rw [stAt_some hs, h, hc]; simp [firstE, unlessE]
theorem stH_week {ps : List PD} {ss : List SD} {k : Nat} {s : SD} (hs : ss[k]? = some s) (h : hasP ps s.player = true) (hc : clubOk s = true) (hw : betwB s.week 1 60 = false) : stH ps ss k = 1 := by
  unfold clubOk at hc; unfold stH; rw [stAt_some hs, h, hc, hw]; simp [firstE, unlessE]
theorem stH_fall {ps : List PD} {ss : List SD} {k : Nat} {s sp : SD} (hs : ss[k]? = some s) (hsp : ss[k - 1]? = some sp) (hk : k ≠ 0) (h : hasP ps s.player = true) (hc : clubOk s = true) (hw : betwB s.week 1 60 = true) (ho : ¬ cmpSt sp s < 0) : stH ps ss k = 7 := by
  unfold clubOk at hc; unfold stH; rw [stAt_some hs, stAt_some hsp, h, hc, hw, decide_eq_false hk, decide_eq_false ho]; simp [firstE, unlessE]
theorem stH_ok {ps : List PD} {ss : List SD} {k : Nat} {s : SD} (hs : ss[k]? = some s) (h : hasP ps s.player = true) (hc : clubOk s = true) (hw : betwB s.week 1 60 = true) (ho : k = 0 ∨ ∃ sp, ss[k - 1]? = some sp ∧ cmpSt sp s < 0) : stH ps ss k = 0 := by
  unfold clubOk at hc; unfold stH; rw [stAt_some hs, h, hc, hw]
  rcases ho with rfl | ⟨sp, hsp, ho⟩
  · simp [firstE, unlessE]
  · rw [stAt_some hsp, decide_eq_true ho]; simp [firstE, unlessE]
theorem cmpSt_lt {a b : SD} (h : ltS b.player a.player = true) : ¬ cmpSt a b < 0 := by
  have e : cmpS a.player b.player = 1 := by
    unfold cmpS
    rw [ltS_asymm h]
    have : beqS a.player b.player = false := by
      cases hh : beqS a.player b.player
      · rfl
      · have := beqS_iff.1 hh; rw [this, ltS_irrefl] at h; cases h
    rw [this]; rfl
  unfold cmpSt; rw [e]; simp [firstE]
theorem cmpSt_gt {a b : SD} (h : ltS b.player a.player = false) (he : beqS b.player a.player = false) : cmpSt a b < 0 := by
  have e : cmpS a.player b.player = -1 := by unfold cmpS; rw [ltS_or h he]; rfl
  unfold cmpSt; rw [e]; simp [firstE]
theorem cmpSt_wk {a b : SD} (he : beqS b.player a.player = true) : cmpSt a b < 0 ↔ a.week < b.week := by
  have e : cmpS a.player b.player = 0 := by unfold cmpS; rw [beqS_iff.1 he, ltS_irrefl, beqS_self]; rfl
  unfold cmpSt; rw [e]
  unfold Lib.compareInt
  by_cases h : a.week < b.week
  · simp [firstE, h]
  · by_cases h2 : a.week > b.week
    · simp [firstE, h, h2]
    · simp [firstE, h, h2]

set_option maxRecDepth 100000 in
set_option maxHeartbeats 8000000 in
theorem stintsFault_calls (lo lo' : Nat) (pv v : Value) (ps : List PD) (ss : List SD) (w : World) (hp : Plays w lo' pv ps) (hS : Sts w lo v ss) (hss : ∀ s ∈ ss, OkS s) (hn : ss.length ≤ 1000000) :
    Calls Tryz.prog 16 #[pv, v] w (IntBelow (refSt ps ss) w) := by
  obtain ⟨pa, pc, rfl⟩ := plays_shape hp
  rcases sts_at hS with ⟨rfl, rfl⟩ | ⟨g, off, cap, rfl, hlo, hg, hn', hcell⟩
  · clear hp hS
    go_enter Tryz.func16, Tryz.ntmps16
    go_wp2
    refine wp_loop_rounds 1 ?_
    rw [rounds_succ]
    go_wp2
    go_ret
    exact ⟨rfl, Below.refl _ _⟩
  by_cases h5 : 1000 < ss.length
  · have HE := Lib.hid (show refSt ps ss = 2 by unfold refSt eachE; rw [if_pos (by omega)])
    clear hcell hp hS hss
    go_enter Tryz.func16, Tryz.ntmps16
    go_wp2_with fail
    go_ret
    exact ⟨ret_int HE.out.symm, Below.refl _ _⟩
  have HE := Lib.hid (show refSt ps ss = errsTo (stH ps ss) ss.length by unfold refSt eachE; rw [if_neg (by omega)]; rfl)
  have Hc := Lib.hid hcell
  have Hs := Lib.hid (show ∀ (i : Nat) (s : SD), ss[i]? = some s → OkS s from fun i p h => hss p (List.mem_of_getElem? h))
  have HP := Lib.hid hp
  clear hcell hS hss hp
  go_enter Tryz.func16, Tryz.ntmps16
  go_wp2_with fail
  go_loopw [12] (fun i wr => ∃ k : Nat, k ≤ ss.length ∧ i = .int .i64 k ∧ Below w.heap.size w wr ∧ Hid (∀ i, i < k → stH ps ss i = 0)) (fun i _ => ss.length - (intOf i).toNat)
  case atStart => exact ⟨0, Nat.zero_le _, rfl, Below.refl _ _, Lib.hid fun i hi => by omega⟩
  case round =>
    obtain ⟨k, hk, rfl, hb, H0⟩ := hrel
    by_cases hlt : k < ss.length
    · obtain ⟨s, hsk⟩ : ∃ s, ss[k]? = some s := ⟨ss[k], List.getElem?_eq_getElem hlt⟩
      obtain ⟨h0, h1, h2⟩ := Hc.out k s hsk
      have g0 := below_cell hb h0
      have g1 := below_cell hb h1
      have g2 := below_cell hb h2
      obtain ⟨s1, s2, s3, s4⟩ := Hs.out k s hsk
      have Hnext := Lib.hid (show stH ps ss k = 0 → ∀ i, i < k + 1 → stH ps ss i = 0 from fun h i hi => by
        rcases Nat.lt_succ_iff_lt_or_eq.1 hi with h' | rfl
        · exact H0.out i h'
        · exact h)
      have Hhit := Lib.hid (show stH ps ss k ≠ 0 → refSt ps ss = stH ps ss k from fun h => by rw [HE.out]; exact errsTo_hit hlt H0.out h)
      have hbo := below_step hb (below_alloc wr (.cells #[.string s.player, .string s.club, .int .i64 s.week] 98))
      have HPo := Lib.hid ((HP.out.below hb).below (below_alloc wr (.cells #[.string s.player, .string s.club, .int .i64 s.week] 98)))
      have HX := Lib.hid (show ∀ w', Below (wr.alloc (.cells #[.string s.player, .string s.club, .int .i64 s.week] 98)).heap.size (wr.alloc (.cells #[.string s.player, .string s.club, .int .i64 s.week] 98)) w' → w'.cell? ⟨wr.heap.size, 0, none⟩ = some (.string s.player) ∧ w'.cell? ⟨wr.heap.size, 1, none⟩ = some (.string s.club) ∧ w'.cell? ⟨wr.heap.size, 2, none⟩ = some (.int .i64 s.week) from fun w' hb' => ⟨below_cell hb' (by rw [World.cell?_alloc_at _ _ _ _ rfl]; rfl), below_cell hb' (by rw [World.cell?_alloc_at _ _ _ _ rfl]; rfl), below_cell hb' (by rw [World.cell?_alloc_at _ _ _ _ rfl]; rfl)⟩)
      have HPrev := Lib.hid (show ∀ w' sp, ss[k - 1]? = some sp → Below (wr.alloc (.cells #[.string s.player, .string s.club, .int .i64 s.week] 98)).heap.size (wr.alloc (.cells #[.string s.player, .string s.club, .int .i64 s.week] 98)) w' → w'.cell? ⟨g, off + (k - 1) * 3, none⟩ = some (.string sp.player) ∧ w'.cell? ⟨g, off + (k - 1) * 3 + 1, none⟩ = some (.string sp.club) ∧ w'.cell? ⟨g, off + (k - 1) * 3 + 2, none⟩ = some (.int .i64 sp.week) from fun w' sp hsp hb' => by
        obtain ⟨q0, q1, q2⟩ := Hc.out (k - 1) sp hsp
        have hbb := below_step hbo hb'
        exact ⟨below_cell hbb q0, below_cell hbb q1, below_cell hbb q2⟩)
      have HEm := Lib.hid (empty_of s.club)
      have Hsk := Lib.hid hsk
      clear h0 h1 h2 hsk s3 s4
      cases hh : hasP ps s.player
      · have HH := Lib.hid hh
        have HT := Lib.hid (stH_who Hsk.out HH.out)
        clear hh
        go_wp2_with fail
        refine (playerAt_no lo' s.player _ ps _ HPo.out HH.out).mono ?_
        rintro e w1 ⟨rfl, hb1⟩
        obtain ⟨x0, x1, x2⟩ := HX.out w1 hb1
        go_wp2_with fail
        go_ret
        exact ⟨ret_int (by rw [Hhit.out (by rw [HT.out]; decide), HT.out]), below_step hbo hb1⟩
      · have HH := Lib.hid hh
        clear hh
        by_cases hc0 : s.club.size = 0
        · have ec : s.club.toList.isEmpty = true := by rw [HEm.out]; simp [hc0]
          have HC := Lib.hid (show clubOk s = true by unfold clubOk; rw [decide_eq_true hc0]; rfl)
          clear hc0
          by_cases hw6 : betwB s.week 1 60 = true
          · have HW := Lib.hid hw6
            clear hw6
            by_cases hz : k = 0
            · have Hgo := Lib.hid (Hnext.out (stH_ok Hsk.out HH.out HC.out HW.out (.inl hz)))
              have e0 : decide (0 < k) = false := by rw [decide_eq_false_iff_not]; omega
              clear hz
              go_wp2_with fail
              refine (playerAt_yes lo' s.player _ ps _ HPo.out HH.out).mono ?_
              rintro e w1 ⟨r, rfl, hb1⟩
              obtain ⟨x0, x1, x2⟩ := HX.out w1 hb1
              go_wp2_with fail
              refine (weekR_calls s.week _).mono ?_
              rintro e w' ⟨rfl, rfl⟩
              rw [HW.out]
              go_wp2_with fail
              refine wp_region_held_drew (S := fun w' => Below (wr.alloc (.cells #[.string s.player, .string s.club, .int .i64 s.week] 98)).heap.size (wr.alloc (.cells #[.string s.player, .string s.club, .int .i64 s.week] 98)) w' ∧ w'.cell? ⟨wr.heap.size, 0, none⟩ = some (.string s.player) ∧ w'.cell? ⟨wr.heap.size, 1, none⟩ = some (.string s.club) ∧ w'.cell? ⟨wr.heap.size, 2, none⟩ = some (.int .i64 s.week)) (by kernel_rfl) ?_ (fun hHeld => ?_)
              · (exact ⟨hb1.drew, HX.out _ hb1.drew⟩)
              refine take_at 0 39 (v := ?_) rfl rfl (by kernel_rfl) (by kernel_rfl) (by kernel_rfl) (fun _ _ _ h => h) (by rfl) ?y0pa (by assumption) ?r0pa
              case y0pa =>
                intro w hSw
                try dsimp only at hSw
                go_simp
                try with_reducible rfl
              simp only [List.set_cons_zero, List.set_cons_succ]
              refine take_at 1 40 (v := ?_) rfl rfl (by kernel_rfl) (by kernel_rfl) (by kernel_rfl) (fun _ _ _ h => h) (by rfl) ?y1pa (by assumption) ?r1pa
              case y1pa =>
                intro w hSw
                try dsimp only at hSw
                go_simp
                try with_reducible rfl
              simp only [List.set_cons_zero, List.set_cons_succ]
              refine take_at 2 41 (v := ?_) rfl rfl (by kernel_rfl) (by kernel_rfl) (by kernel_rfl) (fun _ _ _ h => h) (by rfl) ?y2pa (by assumption) ?r2pa
              case y2pa =>
                intro w hSw
                try dsimp only at hSw
                go_simp
                try with_reducible rfl
              simp only [List.set_cons_zero, List.set_cons_succ]
              refine skip_at 3 42 rfl rfl (by kernel_rfl) (by kernel_rfl) (by kernel_rfl) (fun _ _ _ h => h) (by rfl) (by assumption) ?_
              simp only [List.set_cons_zero, List.set_cons_succ]
              refine skip_at 4 43 rfl rfl (by kernel_rfl) (by kernel_rfl) (by kernel_rfl) (fun _ _ _ h => h) (by rfl) (by assumption) ?_
              simp only [List.set_cons_zero, List.set_cons_succ]
              refine skip_at 5 44 rfl rfl (by kernel_rfl) (by kernel_rfl) (by kernel_rfl) (fun _ _ _ h => h) (by rfl) (by assumption) ?_
              simp only [List.set_cons_zero, List.set_cons_succ]
              refine skip_at 6 45 rfl rfl (by kernel_rfl) (by kernel_rfl) (by kernel_rfl) (fun _ _ _ h => h) (by rfl) (by assumption) ?_
              simp only [List.set_cons_zero, List.set_cons_succ]
              refine skip_at 7 46 rfl rfl (by kernel_rfl) (by kernel_rfl) (by kernel_rfl) (fun _ _ _ h => h) (by rfl) (by assumption) ?_
              simp only [List.set_cons_zero, List.set_cons_succ]
              refine skip_at 8 47 rfl rfl (by kernel_rfl) (by kernel_rfl) (by kernel_rfl) (fun _ _ _ h => h) (by rfl) (by assumption) ?_
              simp only [List.set_cons_zero, List.set_cons_succ]
              refine skip_at 9 48 rfl rfl (by kernel_rfl) (by kernel_rfl) (by kernel_rfl) (fun _ _ _ h => h) (by rfl) (by assumption) ?_
              simp only [List.set_cons_zero, List.set_cons_succ]
              refine skip_at 10 49 rfl rfl (by kernel_rfl) (by kernel_rfl) (by kernel_rfl) (fun _ _ _ h => h) (by rfl) (by assumption) ?_
              simp only [List.set_cons_zero, List.set_cons_succ]
              refine skip_at 11 50 rfl rfl (by kernel_rfl) (by kernel_rfl) (by kernel_rfl) (fun _ _ _ h => h) (by rfl) (by assumption) ?_
              simp only [List.set_cons_zero, List.set_cons_succ]
              refine skip_at 12 51 rfl rfl (by kernel_rfl) (by kernel_rfl) (by kernel_rfl) (fun _ _ _ h => h) (by rfl) (by assumption) ?_
              simp only [List.set_cons_zero, List.set_cons_succ]
              refine skip_at 13 52 rfl rfl (by kernel_rfl) (by kernel_rfl) (by kernel_rfl) (fun _ _ _ h => h) (by rfl) (by assumption) ?_
              simp only [List.set_cons_zero, List.set_cons_succ]
              refine skip_at 14 53 rfl rfl (by kernel_rfl) (by kernel_rfl) (by kernel_rfl) (fun _ _ _ h => h) (by rfl) (by assumption) ?_
              simp only [List.set_cons_zero, List.set_cons_succ]
              refine skip_at 15 54 rfl rfl (by kernel_rfl) (by kernel_rfl) (by kernel_rfl) (fun _ _ _ h => h) (by rfl) (by assumption) ?_
              simp only [List.set_cons_zero, List.set_cons_succ]
              refine skip_at 16 55 rfl rfl (by kernel_rfl) (by kernel_rfl) (by kernel_rfl) (fun _ _ _ h => h) (by rfl) (by assumption) ?_
              simp only [List.set_cons_zero, List.set_cons_succ]
              refine skip_at 17 56 rfl rfl (by kernel_rfl) (by kernel_rfl) (by kernel_rfl) (fun _ _ _ h => h) (by rfl) (by assumption) ?_
              simp only [List.set_cons_zero, List.set_cons_succ]
              refine skip_at 18 57 rfl rfl (by kernel_rfl) (by kernel_rfl) (by kernel_rfl) (fun _ _ _ h => h) (by rfl) (by assumption) ?_
              simp only [List.set_cons_zero, List.set_cons_succ]
              refine skip_at 19 58 rfl rfl (by kernel_rfl) (by kernel_rfl) (by kernel_rfl) (fun _ _ _ h => h) (by rfl) (by assumption) ?_
              simp only [List.set_cons_zero, List.set_cons_succ]
              refine skip_at 20 59 rfl rfl (by kernel_rfl) (by kernel_rfl) (by kernel_rfl) (fun _ _ _ h => h) (by rfl) (by assumption) ?_
              simp only [List.set_cons_zero, List.set_cons_succ]
              refine skip_at 21 60 rfl rfl (by kernel_rfl) (by kernel_rfl) (by kernel_rfl) (fun _ _ _ h => h) (by rfl) (by assumption) ?_
              simp only [List.set_cons_zero, List.set_cons_succ]
              refine skip_at 22 61 rfl rfl (by kernel_rfl) (by kernel_rfl) (by kernel_rfl) (fun _ _ _ h => h) (by rfl) (by assumption) ?_
              simp only [List.set_cons_zero, List.set_cons_succ]
              refine skip_at 23 62 rfl rfl (by kernel_rfl) (by kernel_rfl) (by kernel_rfl) (fun _ _ _ h => h) (by rfl) (by assumption) ?_
              simp only [List.set_cons_zero, List.set_cons_succ]
              refine skip_at 24 63 rfl rfl (by kernel_rfl) (by kernel_rfl) (by kernel_rfl) (fun _ _ _ h => h) (by rfl) (by assumption) ?_
              simp only [List.set_cons_zero, List.set_cons_succ]
              refine skip_at 25 64 rfl rfl (by kernel_rfl) (by kernel_rfl) (by kernel_rfl) (fun _ _ _ h => h) (by rfl) (by assumption) ?_
              simp only [List.set_cons_zero, List.set_cons_succ]
              refine skip_at 26 65 rfl rfl (by kernel_rfl) (by kernel_rfl) (by kernel_rfl) (fun _ _ _ h => h) (by rfl) (by assumption) ?_
              simp only [List.set_cons_zero, List.set_cons_succ]
              refine skip_at 27 66 rfl rfl (by kernel_rfl) (by kernel_rfl) (by kernel_rfl) (fun _ _ _ h => h) (by rfl) (by assumption) ?_
              simp only [List.set_cons_zero, List.set_cons_succ]
              refine skip_at 28 67 rfl rfl (by kernel_rfl) (by kernel_rfl) (by kernel_rfl) (fun _ _ _ h => h) (by rfl) (by assumption) ?_
              simp only [List.set_cons_zero, List.set_cons_succ]
              refine skip_at 29 68 rfl rfl (by kernel_rfl) (by kernel_rfl) (by kernel_rfl) (fun _ _ _ h => h) (by rfl) (by assumption) ?_
              simp only [List.set_cons_zero, List.set_cons_succ]
              refine skip_at 30 69 rfl rfl (by kernel_rfl) (by kernel_rfl) (by kernel_rfl) (fun _ _ _ h => h) (by rfl) (by assumption) ?_
              simp only [List.set_cons_zero, List.set_cons_succ]
              refine skip_at 31 70 rfl rfl (by kernel_rfl) (by kernel_rfl) (by kernel_rfl) (fun _ _ _ h => h) (by rfl) (by assumption) ?_
              simp only [List.set_cons_zero, List.set_cons_succ]
              refine skip_at 32 71 rfl rfl (by kernel_rfl) (by kernel_rfl) (by kernel_rfl) (fun _ _ _ h => h) (by rfl) (by assumption) ?_
              simp only [List.set_cons_zero, List.set_cons_succ]
              refine skip_at 33 72 rfl rfl (by kernel_rfl) (by kernel_rfl) (by kernel_rfl) (fun _ _ _ h => h) (by rfl) (by assumption) ?_
              simp only [List.set_cons_zero, List.set_cons_succ]
              refine take_at 34 73 (v := ?_) rfl rfl (by kernel_rfl) (by kernel_rfl) (by kernel_rfl) (fun _ _ _ h => h) (by rfl) ?y34pa (by assumption) ?r34pa
              case y34pa =>
                intro w hSw
                try dsimp only at hSw
                go_simp
                try with_reducible rfl
              simp only [List.set_cons_zero, List.set_cons_succ]
              refine take_at 35 38 (v := ?_) rfl rfl (by kernel_rfl) (by kernel_rfl) (by kernel_rfl) (fun _ _ _ h => h) (by rfl) ?y35pa (by assumption) ?r35pa
              case y35pa =>
                intro w hSw
                try dsimp only at hSw
                go_simp
                try with_reducible rfl
              simp only [List.set_cons_zero, List.set_cons_succ]
              refine wpAnyH_done (by kernel_rfl) ?_ _
              go_wp2_with fail
              go_roundw
              case rel => exact ⟨k + 1, by omega, by go_num, below_step hbo hHeld.1, Hgo⟩
              case measure => simp [intOf]; omega

            · obtain ⟨sp, hsp⟩ : ∃ sp, ss[k - 1]? = some sp := ⟨_, List.getElem?_eq_getElem (show k - 1 < ss.length by omega)⟩
              have e0 : decide (0 < k) = true := by rw [decide_eq_true_eq]; omega
              have wr1 : IntKind.i64.wrap ((k : Int) - 1) = ((k - 1 : Nat) : Int) := by rw [IntWalk.i64_in _ (by omega)]; omega
              have wr2 : ((k - 1 : Nat) : Int) < (ss.length : Int) := by omega
              have Hz := Lib.hid hz
              have Hsp := Lib.hid hsp
              clear hz hsp
              cases hl : ltS s.player sp.player
              · have el : Op.bytesLess s.player.toList sp.player.toList = false := hl
                cases he : beqS s.player sp.player
                · have ee : (s.player.toList == sp.player.toList) = false := he
                  have Hgo := Lib.hid (Hnext.out (stH_ok Hsk.out HH.out HC.out HW.out (.inr ⟨sp, Hsp.out, cmpSt_gt hl he⟩)))
                  clear hl he
                  go_wp2_with fail
                  refine (playerAt_yes lo' s.player _ ps _ HPo.out HH.out).mono ?_
                  rintro e w1 ⟨r, rfl, hb1⟩
                  obtain ⟨x0, x1, x2⟩ := HX.out w1 hb1
                  go_wp2_with fail
                  refine (weekR_calls s.week _).mono ?_
                  rintro e w' ⟨rfl, rfl⟩
                  rw [HW.out]
                  go_wp2_with fail
                  obtain ⟨y0, y1, y2⟩ := HPrev.out w1 sp Hsp.out hb1
                  refine wp_region_held_drew (S := fun w' => Below (wr.alloc (.cells #[.string s.player, .string s.club, .int .i64 s.week] 98)).heap.size (wr.alloc (.cells #[.string s.player, .string s.club, .int .i64 s.week] 98)) w' ∧ w'.cell? ⟨wr.heap.size, 0, none⟩ = some (.string s.player) ∧ w'.cell? ⟨wr.heap.size, 1, none⟩ = some (.string s.club) ∧ w'.cell? ⟨wr.heap.size, 2, none⟩ = some (.int .i64 s.week) ∧ w'.cell? ⟨g, off + (k - 1) * 3, none⟩ = some (.string sp.player) ∧ w'.cell? ⟨g, off + (k - 1) * 3 + 1, none⟩ = some (.string sp.club) ∧ w'.cell? ⟨g, off + (k - 1) * 3 + 2, none⟩ = some (.int .i64 sp.week)) (by kernel_rfl) ?_ (fun hHeld => ?_)
                  · (exact ⟨hb1.drew, (HX.out _ hb1.drew).1, (HX.out _ hb1.drew).2.1, (HX.out _ hb1.drew).2.2, HPrev.out _ sp Hsp.out hb1.drew⟩)
                  refine take_at 0 39 (v := ?_) rfl rfl (by kernel_rfl) (by kernel_rfl) (by kernel_rfl) (fun _ _ _ h => h) (by rfl) ?y0pc (by assumption) ?r0pc
                  case y0pc =>
                    intro w hSw
                    try dsimp only at hSw
                    go_simp
                    try with_reducible rfl
                  simp only [List.set_cons_zero, List.set_cons_succ]
                  refine take_at 1 40 (v := ?_) rfl rfl (by kernel_rfl) (by kernel_rfl) (by kernel_rfl) (fun _ _ _ h => h) (by rfl) ?y1pc (by assumption) ?r1pc
                  case y1pc =>
                    intro w hSw
                    try dsimp only at hSw
                    go_simp
                    try with_reducible rfl
                  simp only [List.set_cons_zero, List.set_cons_succ]
                  refine take_at 2 41 (v := ?_) rfl rfl (by kernel_rfl) (by kernel_rfl) (by kernel_rfl) (fun _ _ _ h => h) (by rfl) ?y2pc (by assumption) ?r2pc
                  case y2pc =>
                    intro w hSw
                    try dsimp only at hSw
                    go_simp
                    try with_reducible rfl
                  simp only [List.set_cons_zero, List.set_cons_succ]
                  refine take_at 3 42 (v := ?_) rfl rfl (by kernel_rfl) (by kernel_rfl) (by kernel_rfl) (fun _ _ _ h => h) (by rfl) ?y3pc (by assumption) ?r3pc
                  case y3pc =>
                    intro w hSw
                    try dsimp only at hSw
                    go_simp
                    try with_reducible rfl
                  simp only [List.set_cons_zero, List.set_cons_succ]
                  refine take_at 4 43 (v := ?_) rfl rfl (by kernel_rfl) (by kernel_rfl) (by kernel_rfl) (fun _ _ _ h => h) (by rfl) ?y4pc (by assumption) ?r4pc
                  case y4pc =>
                    intro w hSw
                    try dsimp only at hSw
                    go_simp
                    try with_reducible rfl
                  simp only [List.set_cons_zero, List.set_cons_succ]
                  refine take_at 5 44 (v := ?_) rfl rfl (by kernel_rfl) (by kernel_rfl) (by kernel_rfl) (fun _ _ _ h => h) (by rfl) ?y5pc (by assumption) ?r5pc
                  case y5pc =>
                    intro w hSw
                    try dsimp only at hSw
                    go_simp
                    try with_reducible rfl
                  simp only [List.set_cons_zero, List.set_cons_succ]
                  refine take_at 6 45 (v := ?_) rfl rfl (by kernel_rfl) (by kernel_rfl) (by kernel_rfl) (fun _ _ _ h => h) (by rfl) ?y6pc (by assumption) ?r6pc
                  case y6pc =>
                    intro w hSw
                    try dsimp only at hSw
                    go_simp
                    try with_reducible rfl
                  simp only [List.set_cons_zero, List.set_cons_succ]
                  refine take_at 7 46 (v := ?_) rfl rfl (by kernel_rfl) (by kernel_rfl) (by kernel_rfl) (fun _ _ _ h => h) (by rfl) ?y7pc (by assumption) ?r7pc
                  case y7pc =>
                    intro w hSw
                    try dsimp only at hSw
                    go_simp
                    try with_reducible rfl
                  simp only [List.set_cons_zero, List.set_cons_succ]
                  refine take_at 8 47 (v := ?_) rfl rfl (by kernel_rfl) (by kernel_rfl) (by kernel_rfl) (fun _ _ _ h => h) (by rfl) ?y8pc (by assumption) ?r8pc
                  case y8pc =>
                    intro w hSw
                    try dsimp only at hSw
                    go_simp
                    try with_reducible rfl
                  simp only [List.set_cons_zero, List.set_cons_succ]
                  refine take_at 9 48 (v := ?_) rfl rfl (by kernel_rfl) (by kernel_rfl) (by kernel_rfl) (fun _ _ _ h => h) (by rfl) ?y9pc (by assumption) ?r9pc
                  case y9pc =>
                    intro w hSw
                    try dsimp only at hSw
                    go_simp
                    try with_reducible rfl
                  simp only [List.set_cons_zero, List.set_cons_succ]
                  refine take_at 10 49 (v := ?_) rfl rfl (by kernel_rfl) (by kernel_rfl) (by kernel_rfl) (fun _ _ _ h => h) (by rfl) ?y10pc (by assumption) ?r10pc
                  case y10pc =>
                    intro w hSw
                    try dsimp only at hSw
                    go_simp
                    try with_reducible rfl
                  simp only [List.set_cons_zero, List.set_cons_succ]
                  refine take_at 11 50 (v := ?_) rfl rfl (by kernel_rfl) (by kernel_rfl) (by kernel_rfl) (fun _ _ _ h => h) (by rfl) ?y11pc (by assumption) ?r11pc
                  case y11pc =>
                    intro w hSw
                    try dsimp only at hSw
                    go_simp
                    try with_reducible rfl
                  simp only [List.set_cons_zero, List.set_cons_succ]
                  refine take_at 12 51 (v := ?_) rfl rfl (by kernel_rfl) (by kernel_rfl) (by kernel_rfl) (fun _ _ _ h => h) (by rfl) ?y12pc (by assumption) ?r12pc
                  case y12pc =>
                    intro w hSw
                    try dsimp only at hSw
                    go_simp
                    try with_reducible rfl
                  simp only [List.set_cons_zero, List.set_cons_succ]
                  refine take_at 13 52 (v := ?_) rfl rfl (by kernel_rfl) (by kernel_rfl) (by kernel_rfl) (fun _ _ _ h => h) (by rfl) ?y13pc (by assumption) ?r13pc
                  case y13pc =>
                    intro w hSw
                    try dsimp only at hSw
                    go_simp
                    try with_reducible rfl
                  simp only [List.set_cons_zero, List.set_cons_succ]
                  refine take_at 14 53 (v := ?_) rfl rfl (by kernel_rfl) (by kernel_rfl) (by kernel_rfl) (fun _ _ _ h => h) (by rfl) ?y14pc (by assumption) ?r14pc
                  case y14pc =>
                    intro w hSw
                    try dsimp only at hSw
                    go_simp
                    try with_reducible rfl
                  simp only [List.set_cons_zero, List.set_cons_succ]
                  refine take_at 15 54 (v := ?_) rfl rfl (by kernel_rfl) (by kernel_rfl) (by kernel_rfl) (fun _ _ _ h => h) (by rfl) ?y15pc (by assumption) ?r15pc
                  case y15pc =>
                    intro w hSw
                    try dsimp only at hSw
                    go_simp
                    try with_reducible rfl
                  simp only [List.set_cons_zero, List.set_cons_succ]
                  refine take_at 16 55 (v := ?_) rfl rfl (by kernel_rfl) (by kernel_rfl) (by kernel_rfl) (fun _ _ _ h => h) (by rfl) ?y16pc (by assumption) ?r16pc
                  case y16pc =>
                    intro w hSw
                    try dsimp only at hSw
                    go_simp
                    try with_reducible rfl
                  simp only [List.set_cons_zero, List.set_cons_succ]
                  refine take_at 17 56 (v := ?_) rfl rfl (by kernel_rfl) (by kernel_rfl) (by kernel_rfl) (fun _ _ _ h => h) (by rfl) ?y17pc (by assumption) ?r17pc
                  case y17pc =>
                    intro w hSw
                    try dsimp only at hSw
                    go_simp
                    try with_reducible rfl
                  simp only [List.set_cons_zero, List.set_cons_succ]
                  refine take_at 18 57 (v := ?_) rfl rfl (by kernel_rfl) (by kernel_rfl) (by kernel_rfl) (fun _ _ _ h => h) (by rfl) ?y18pc (by assumption) ?r18pc
                  case y18pc =>
                    intro w hSw
                    try dsimp only at hSw
                    go_simp
                    try with_reducible rfl
                  simp only [List.set_cons_zero, List.set_cons_succ]
                  refine take_at 19 58 (v := ?_) rfl rfl (by kernel_rfl) (by kernel_rfl) (by kernel_rfl) (fun _ _ _ h => h) (by rfl) ?y19pc (by assumption) ?r19pc
                  case y19pc =>
                    intro w hSw
                    try dsimp only at hSw
                    go_simp
                    try with_reducible rfl
                  simp only [List.set_cons_zero, List.set_cons_succ]
                  refine take_at 20 59 (v := ?_) rfl rfl (by kernel_rfl) (by kernel_rfl) (by kernel_rfl) (fun _ _ _ h => h) (by rfl) ?y20pc (by assumption) ?r20pc
                  case y20pc =>
                    intro w hSw
                    try dsimp only at hSw
                    go_simp
                    try with_reducible rfl
                  simp only [List.set_cons_zero, List.set_cons_succ]
                  refine take_at 21 60 (v := ?_) rfl rfl (by kernel_rfl) (by kernel_rfl) (by kernel_rfl) (fun _ _ _ h => h) (by rfl) ?y21pc (by assumption) ?r21pc
                  case y21pc =>
                    intro w hSw
                    try dsimp only at hSw
                    go_simp
                    try with_reducible rfl
                  simp only [List.set_cons_zero, List.set_cons_succ]
                  refine take_at 22 61 (v := ?_) rfl rfl (by kernel_rfl) (by kernel_rfl) (by kernel_rfl) (fun _ _ _ h => h) (by rfl) ?y22pc (by assumption) ?r22pc
                  case y22pc =>
                    intro w hSw
                    try dsimp only at hSw
                    go_simp
                    try with_reducible rfl
                  simp only [List.set_cons_zero, List.set_cons_succ]
                  refine skip_at 23 62 rfl rfl (by kernel_rfl) (by kernel_rfl) (by kernel_rfl) (fun _ _ _ h => h) (by rfl) (by assumption) ?_
                  simp only [List.set_cons_zero, List.set_cons_succ]
                  refine skip_at 24 63 rfl rfl (by kernel_rfl) (by kernel_rfl) (by kernel_rfl) (fun _ _ _ h => h) (by rfl) (by assumption) ?_
                  simp only [List.set_cons_zero, List.set_cons_succ]
                  refine skip_at 25 64 rfl rfl (by kernel_rfl) (by kernel_rfl) (by kernel_rfl) (fun _ _ _ h => h) (by rfl) (by assumption) ?_
                  simp only [List.set_cons_zero, List.set_cons_succ]
                  refine skip_at 26 65 rfl rfl (by kernel_rfl) (by kernel_rfl) (by kernel_rfl) (fun _ _ _ h => h) (by rfl) (by assumption) ?_
                  simp only [List.set_cons_zero, List.set_cons_succ]
                  refine skip_at 27 66 rfl rfl (by kernel_rfl) (by kernel_rfl) (by kernel_rfl) (fun _ _ _ h => h) (by rfl) (by assumption) ?_
                  simp only [List.set_cons_zero, List.set_cons_succ]
                  refine skip_at 28 67 rfl rfl (by kernel_rfl) (by kernel_rfl) (by kernel_rfl) (fun _ _ _ h => h) (by rfl) (by assumption) ?_
                  simp only [List.set_cons_zero, List.set_cons_succ]
                  refine skip_at 29 68 rfl rfl (by kernel_rfl) (by kernel_rfl) (by kernel_rfl) (fun _ _ _ h => h) (by rfl) (by assumption) ?_
                  simp only [List.set_cons_zero, List.set_cons_succ]
                  refine skip_at 30 69 rfl rfl (by kernel_rfl) (by kernel_rfl) (by kernel_rfl) (fun _ _ _ h => h) (by rfl) (by assumption) ?_
                  simp only [List.set_cons_zero, List.set_cons_succ]
                  refine skip_at 31 70 rfl rfl (by kernel_rfl) (by kernel_rfl) (by kernel_rfl) (fun _ _ _ h => h) (by rfl) (by assumption) ?_
                  simp only [List.set_cons_zero, List.set_cons_succ]
                  refine take_at 32 71 (v := ?_) rfl rfl (by kernel_rfl) (by kernel_rfl) (by kernel_rfl) (fun _ _ _ h => h) (by rfl) ?y32pc (by assumption) ?r32pc
                  case y32pc =>
                    intro w hSw
                    try dsimp only at hSw
                    go_simp
                    try with_reducible rfl
                  simp only [List.set_cons_zero, List.set_cons_succ]
                  refine take_at 33 72 (v := ?_) rfl rfl (by kernel_rfl) (by kernel_rfl) (by kernel_rfl) (fun _ _ _ h => h) (by rfl) ?y33pc (by assumption) ?r33pc
                  case y33pc =>
                    intro w hSw
                    try dsimp only at hSw
                    go_simp
                    try with_reducible rfl
                  simp only [List.set_cons_zero, List.set_cons_succ]
                  refine take_at 34 73 (v := ?_) rfl rfl (by kernel_rfl) (by kernel_rfl) (by kernel_rfl) (fun _ _ _ h => h) (by rfl) ?y34pc (by assumption) ?r34pc
                  case y34pc =>
                    intro w hSw
                    try dsimp only at hSw
                    go_simp
                    try with_reducible rfl
                  simp only [List.set_cons_zero, List.set_cons_succ]
                  refine take_at 35 38 (v := ?_) rfl rfl (by kernel_rfl) (by kernel_rfl) (by kernel_rfl) (fun _ _ _ h => h) (by rfl) ?y35pc (by assumption) ?r35pc
                  case y35pc =>
                    intro w hSw
                    try dsimp only at hSw
                    go_simp
                    try with_reducible rfl
                  simp only [List.set_cons_zero, List.set_cons_succ]
                  refine wpAnyH_done (by kernel_rfl) ?_ _
                  go_wp2_with fail
                  go_roundw
                  case rel => exact ⟨k + 1, by omega, by go_num, below_step hbo hHeld.1, Hgo⟩
                  case measure => simp [intOf]; omega

                · have ee : (s.player.toList == sp.player.toList) = true := he
                  by_cases hwk : s.week ≤ sp.week
                  · have HT := Lib.hid (stH_fall Hsk.out Hsp.out Hz.out HH.out HC.out HW.out (by rw [cmpSt_wk he]; omega))
                    have ew : decide (s.week ≤ sp.week) = true := decide_eq_true hwk
                    clear hl he
                    go_wp2_with fail
                    refine (playerAt_yes lo' s.player _ ps _ HPo.out HH.out).mono ?_
                    rintro e w1 ⟨r, rfl, hb1⟩
                    obtain ⟨x0, x1, x2⟩ := HX.out w1 hb1
                    go_wp2_with fail
                    refine (weekR_calls s.week _).mono ?_
                    rintro e w' ⟨rfl, rfl⟩
                    rw [HW.out]
                    go_wp2_with fail
                    obtain ⟨y0, y1, y2⟩ := HPrev.out w1 sp Hsp.out hb1
                    refine wp_region_held_drew (S := fun w' => Below (wr.alloc (.cells #[.string s.player, .string s.club, .int .i64 s.week] 98)).heap.size (wr.alloc (.cells #[.string s.player, .string s.club, .int .i64 s.week] 98)) w' ∧ w'.cell? ⟨wr.heap.size, 0, none⟩ = some (.string s.player) ∧ w'.cell? ⟨wr.heap.size, 1, none⟩ = some (.string s.club) ∧ w'.cell? ⟨wr.heap.size, 2, none⟩ = some (.int .i64 s.week) ∧ w'.cell? ⟨g, off + (k - 1) * 3, none⟩ = some (.string sp.player) ∧ w'.cell? ⟨g, off + (k - 1) * 3 + 1, none⟩ = some (.string sp.club) ∧ w'.cell? ⟨g, off + (k - 1) * 3 + 2, none⟩ = some (.int .i64 sp.week)) (by kernel_rfl) ?_ (fun hHeld => ?_)
                    · (exact ⟨hb1.drew, (HX.out _ hb1.drew).1, (HX.out _ hb1.drew).2.1, (HX.out _ hb1.drew).2.2, HPrev.out _ sp Hsp.out hb1.drew⟩)
                    refine take_at 0 39 (v := ?_) rfl rfl (by kernel_rfl) (by kernel_rfl) (by kernel_rfl) (fun _ _ _ h => h) (by rfl) ?y0pd (by assumption) ?r0pd
                    case y0pd =>
                      intro w hSw
                      try dsimp only at hSw
                      go_simp
                      try with_reducible rfl
                    simp only [List.set_cons_zero, List.set_cons_succ]
                    refine take_at 1 40 (v := ?_) rfl rfl (by kernel_rfl) (by kernel_rfl) (by kernel_rfl) (fun _ _ _ h => h) (by rfl) ?y1pd (by assumption) ?r1pd
                    case y1pd =>
                      intro w hSw
                      try dsimp only at hSw
                      go_simp
                      try with_reducible rfl
                    simp only [List.set_cons_zero, List.set_cons_succ]
                    refine take_at 2 41 (v := ?_) rfl rfl (by kernel_rfl) (by kernel_rfl) (by kernel_rfl) (fun _ _ _ h => h) (by rfl) ?y2pd (by assumption) ?r2pd
                    case y2pd =>
                      intro w hSw
                      try dsimp only at hSw
                      go_simp
                      try with_reducible rfl
                    simp only [List.set_cons_zero, List.set_cons_succ]
                    refine take_at 3 42 (v := ?_) rfl rfl (by kernel_rfl) (by kernel_rfl) (by kernel_rfl) (fun _ _ _ h => h) (by rfl) ?y3pd (by assumption) ?r3pd
                    case y3pd =>
                      intro w hSw
                      try dsimp only at hSw
                      go_simp
                      try with_reducible rfl
                    simp only [List.set_cons_zero, List.set_cons_succ]
                    refine take_at 4 43 (v := ?_) rfl rfl (by kernel_rfl) (by kernel_rfl) (by kernel_rfl) (fun _ _ _ h => h) (by rfl) ?y4pd (by assumption) ?r4pd
                    case y4pd =>
                      intro w hSw
                      try dsimp only at hSw
                      go_simp
                      try with_reducible rfl
                    simp only [List.set_cons_zero, List.set_cons_succ]
                    refine take_at 5 44 (v := ?_) rfl rfl (by kernel_rfl) (by kernel_rfl) (by kernel_rfl) (fun _ _ _ h => h) (by rfl) ?y5pd (by assumption) ?r5pd
                    case y5pd =>
                      intro w hSw
                      try dsimp only at hSw
                      go_simp
                      try with_reducible rfl
                    simp only [List.set_cons_zero, List.set_cons_succ]
                    refine take_at 6 45 (v := ?_) rfl rfl (by kernel_rfl) (by kernel_rfl) (by kernel_rfl) (fun _ _ _ h => h) (by rfl) ?y6pd (by assumption) ?r6pd
                    case y6pd =>
                      intro w hSw
                      try dsimp only at hSw
                      go_simp
                      try with_reducible rfl
                    simp only [List.set_cons_zero, List.set_cons_succ]
                    refine take_at 7 46 (v := ?_) rfl rfl (by kernel_rfl) (by kernel_rfl) (by kernel_rfl) (fun _ _ _ h => h) (by rfl) ?y7pd (by assumption) ?r7pd
                    case y7pd =>
                      intro w hSw
                      try dsimp only at hSw
                      go_simp
                      try with_reducible rfl
                    simp only [List.set_cons_zero, List.set_cons_succ]
                    refine take_at 8 47 (v := ?_) rfl rfl (by kernel_rfl) (by kernel_rfl) (by kernel_rfl) (fun _ _ _ h => h) (by rfl) ?y8pd (by assumption) ?r8pd
                    case y8pd =>
                      intro w hSw
                      try dsimp only at hSw
                      go_simp
                      try with_reducible rfl
                    simp only [List.set_cons_zero, List.set_cons_succ]
                    refine take_at 9 48 (v := ?_) rfl rfl (by kernel_rfl) (by kernel_rfl) (by kernel_rfl) (fun _ _ _ h => h) (by rfl) ?y9pd (by assumption) ?r9pd
                    case y9pd =>
                      intro w hSw
                      try dsimp only at hSw
                      go_simp
                      try with_reducible rfl
                    simp only [List.set_cons_zero, List.set_cons_succ]
                    refine take_at 10 49 (v := ?_) rfl rfl (by kernel_rfl) (by kernel_rfl) (by kernel_rfl) (fun _ _ _ h => h) (by rfl) ?y10pd (by assumption) ?r10pd
                    case y10pd =>
                      intro w hSw
                      try dsimp only at hSw
                      go_simp
                      try with_reducible rfl
                    simp only [List.set_cons_zero, List.set_cons_succ]
                    refine take_at 11 50 (v := ?_) rfl rfl (by kernel_rfl) (by kernel_rfl) (by kernel_rfl) (fun _ _ _ h => h) (by rfl) ?y11pd (by assumption) ?r11pd
                    case y11pd =>
                      intro w hSw
                      try dsimp only at hSw
                      go_simp
                      try with_reducible rfl
                    simp only [List.set_cons_zero, List.set_cons_succ]
                    refine take_at 12 51 (v := ?_) rfl rfl (by kernel_rfl) (by kernel_rfl) (by kernel_rfl) (fun _ _ _ h => h) (by rfl) ?y12pd (by assumption) ?r12pd
                    case y12pd =>
                      intro w hSw
                      try dsimp only at hSw
                      go_simp
                      try with_reducible rfl
                    simp only [List.set_cons_zero, List.set_cons_succ]
                    refine take_at 13 52 (v := ?_) rfl rfl (by kernel_rfl) (by kernel_rfl) (by kernel_rfl) (fun _ _ _ h => h) (by rfl) ?y13pd (by assumption) ?r13pd
                    case y13pd =>
                      intro w hSw
                      try dsimp only at hSw
                      go_simp
                      try with_reducible rfl
                    simp only [List.set_cons_zero, List.set_cons_succ]
                    refine take_at 14 53 (v := ?_) rfl rfl (by kernel_rfl) (by kernel_rfl) (by kernel_rfl) (fun _ _ _ h => h) (by rfl) ?y14pd (by assumption) ?r14pd
                    case y14pd =>
                      intro w hSw
                      try dsimp only at hSw
                      go_simp
                      try with_reducible rfl
                    simp only [List.set_cons_zero, List.set_cons_succ]
                    refine take_at 15 54 (v := ?_) rfl rfl (by kernel_rfl) (by kernel_rfl) (by kernel_rfl) (fun _ _ _ h => h) (by rfl) ?y15pd (by assumption) ?r15pd
                    case y15pd =>
                      intro w hSw
                      try dsimp only at hSw
                      go_simp
                      try with_reducible rfl
                    simp only [List.set_cons_zero, List.set_cons_succ]
                    refine take_at 16 55 (v := ?_) rfl rfl (by kernel_rfl) (by kernel_rfl) (by kernel_rfl) (fun _ _ _ h => h) (by rfl) ?y16pd (by assumption) ?r16pd
                    case y16pd =>
                      intro w hSw
                      try dsimp only at hSw
                      go_simp
                      try with_reducible rfl
                    simp only [List.set_cons_zero, List.set_cons_succ]
                    refine take_at 17 56 (v := ?_) rfl rfl (by kernel_rfl) (by kernel_rfl) (by kernel_rfl) (fun _ _ _ h => h) (by rfl) ?y17pd (by assumption) ?r17pd
                    case y17pd =>
                      intro w hSw
                      try dsimp only at hSw
                      go_simp
                      try with_reducible rfl
                    simp only [List.set_cons_zero, List.set_cons_succ]
                    refine take_at 18 57 (v := ?_) rfl rfl (by kernel_rfl) (by kernel_rfl) (by kernel_rfl) (fun _ _ _ h => h) (by rfl) ?y18pd (by assumption) ?r18pd
                    case y18pd =>
                      intro w hSw
                      try dsimp only at hSw
                      go_simp
                      try with_reducible rfl
                    simp only [List.set_cons_zero, List.set_cons_succ]
                    refine take_at 19 58 (v := ?_) rfl rfl (by kernel_rfl) (by kernel_rfl) (by kernel_rfl) (fun _ _ _ h => h) (by rfl) ?y19pd (by assumption) ?r19pd
                    case y19pd =>
                      intro w hSw
                      try dsimp only at hSw
                      go_simp
                      try with_reducible rfl
                    simp only [List.set_cons_zero, List.set_cons_succ]
                    refine take_at 20 59 (v := ?_) rfl rfl (by kernel_rfl) (by kernel_rfl) (by kernel_rfl) (fun _ _ _ h => h) (by rfl) ?y20pd (by assumption) ?r20pd
                    case y20pd =>
                      intro w hSw
                      try dsimp only at hSw
                      go_simp
                      try with_reducible rfl
                    simp only [List.set_cons_zero, List.set_cons_succ]
                    refine take_at 21 60 (v := ?_) rfl rfl (by kernel_rfl) (by kernel_rfl) (by kernel_rfl) (fun _ _ _ h => h) (by rfl) ?y21pd (by assumption) ?r21pd
                    case y21pd =>
                      intro w hSw
                      try dsimp only at hSw
                      go_simp
                      try with_reducible rfl
                    simp only [List.set_cons_zero, List.set_cons_succ]
                    refine take_at 22 61 (v := ?_) rfl rfl (by kernel_rfl) (by kernel_rfl) (by kernel_rfl) (fun _ _ _ h => h) (by rfl) ?y22pd (by assumption) ?r22pd
                    case y22pd =>
                      intro w hSw
                      try dsimp only at hSw
                      go_simp
                      try with_reducible rfl
                    simp only [List.set_cons_zero, List.set_cons_succ]
                    refine take_at 23 62 (v := ?_) rfl rfl (by kernel_rfl) (by kernel_rfl) (by kernel_rfl) (fun _ _ _ h => h) (by rfl) ?y23pd (by assumption) ?r23pd
                    case y23pd =>
                      intro w hSw
                      try dsimp only at hSw
                      go_simp
                      try with_reducible rfl
                    simp only [List.set_cons_zero, List.set_cons_succ]
                    refine take_at 24 63 (v := ?_) rfl rfl (by kernel_rfl) (by kernel_rfl) (by kernel_rfl) (fun _ _ _ h => h) (by rfl) ?y24pd (by assumption) ?r24pd
                    case y24pd =>
                      intro w hSw
                      try dsimp only at hSw
                      go_simp
                      try with_reducible rfl
                    simp only [List.set_cons_zero, List.set_cons_succ]
                    refine take_at 25 64 (v := ?_) rfl rfl (by kernel_rfl) (by kernel_rfl) (by kernel_rfl) (fun _ _ _ h => h) (by rfl) ?y25pd (by assumption) ?r25pd
                    case y25pd =>
                      intro w hSw
                      try dsimp only at hSw
                      go_simp
                      try with_reducible rfl
                    simp only [List.set_cons_zero, List.set_cons_succ]
                    refine take_at 26 65 (v := ?_) rfl rfl (by kernel_rfl) (by kernel_rfl) (by kernel_rfl) (fun _ _ _ h => h) (by rfl) ?y26pd (by assumption) ?r26pd
                    case y26pd =>
                      intro w hSw
                      try dsimp only at hSw
                      go_simp
                      try with_reducible rfl
                    simp only [List.set_cons_zero, List.set_cons_succ]
                    refine take_at 27 66 (v := ?_) rfl rfl (by kernel_rfl) (by kernel_rfl) (by kernel_rfl) (fun _ _ _ h => h) (by rfl) ?y27pd (by assumption) ?r27pd
                    case y27pd =>
                      intro w hSw
                      try dsimp only at hSw
                      go_simp
                      try with_reducible rfl
                    simp only [List.set_cons_zero, List.set_cons_succ]
                    refine take_at 28 67 (v := ?_) rfl rfl (by kernel_rfl) (by kernel_rfl) (by kernel_rfl) (fun _ _ _ h => h) (by rfl) ?y28pd (by assumption) ?r28pd
                    case y28pd =>
                      intro w hSw
                      try dsimp only at hSw
                      go_simp
                      try with_reducible rfl
                    simp only [List.set_cons_zero, List.set_cons_succ]
                    refine take_at 29 68 (v := ?_) rfl rfl (by kernel_rfl) (by kernel_rfl) (by kernel_rfl) (fun _ _ _ h => h) (by rfl) ?y29pd (by assumption) ?r29pd
                    case y29pd =>
                      intro w hSw
                      try dsimp only at hSw
                      go_simp
                      try with_reducible rfl
                    simp only [List.set_cons_zero, List.set_cons_succ]
                    refine take_at 30 69 (v := ?_) rfl rfl (by kernel_rfl) (by kernel_rfl) (by kernel_rfl) (fun _ _ _ h => h) (by rfl) ?y30pd (by assumption) ?r30pd
                    case y30pd =>
                      intro w hSw
                      try dsimp only at hSw
                      go_simp
                      try with_reducible rfl
                    simp only [List.set_cons_zero, List.set_cons_succ]
                    refine take_at 31 70 (v := ?_) rfl rfl (by kernel_rfl) (by kernel_rfl) (by kernel_rfl) (fun _ _ _ h => h) (by rfl) ?y31pd (by assumption) ?r31pd
                    case y31pd =>
                      intro w hSw
                      try dsimp only at hSw
                      go_simp
                      try with_reducible rfl
                    simp only [List.set_cons_zero, List.set_cons_succ]
                    refine take_at 32 71 (v := ?_) rfl rfl (by kernel_rfl) (by kernel_rfl) (by kernel_rfl) (fun _ _ _ h => h) (by rfl) ?y32pd (by assumption) ?r32pd
                    case y32pd =>
                      intro w hSw
                      try dsimp only at hSw
                      go_simp
                      try with_reducible rfl
                    simp only [List.set_cons_zero, List.set_cons_succ]
                    refine take_at 33 72 (v := ?_) rfl rfl (by kernel_rfl) (by kernel_rfl) (by kernel_rfl) (fun _ _ _ h => h) (by rfl) ?y33pd (by assumption) ?r33pd
                    case y33pd =>
                      intro w hSw
                      try dsimp only at hSw
                      go_simp
                      try with_reducible rfl
                    simp only [List.set_cons_zero, List.set_cons_succ]
                    refine take_at 34 73 (v := ?_) rfl rfl (by kernel_rfl) (by kernel_rfl) (by kernel_rfl) (fun _ _ _ h => h) (by rfl) ?y34pd (by assumption) ?r34pd
                    case y34pd =>
                      intro w hSw
                      try dsimp only at hSw
                      go_simp
                      try with_reducible rfl
                    simp only [List.set_cons_zero, List.set_cons_succ]
                    refine take_at 35 38 (v := ?_) rfl rfl (by kernel_rfl) (by kernel_rfl) (by kernel_rfl) (fun _ _ _ h => h) (by rfl) ?y35pd (by assumption) ?r35pd
                    case y35pd =>
                      intro w hSw
                      try dsimp only at hSw
                      go_simp
                      try with_reducible rfl
                    simp only [List.set_cons_zero, List.set_cons_succ]
                    refine wpAnyH_done (by kernel_rfl) ?_ _
                    go_wp2_with fail
                    go_ret
                    exact ⟨ret_int (by rw [Hhit.out (by rw [HT.out]; decide), HT.out]), below_step hbo hHeld.1⟩

                  · have Hgo := Lib.hid (Hnext.out (stH_ok Hsk.out HH.out HC.out HW.out (.inr ⟨sp, Hsp.out, by rw [cmpSt_wk he]; omega⟩)))
                    have ew : decide (s.week ≤ sp.week) = false := decide_eq_false hwk
                    clear hl he
                    go_wp2_with fail
                    refine (playerAt_yes lo' s.player _ ps _ HPo.out HH.out).mono ?_
                    rintro e w1 ⟨r, rfl, hb1⟩
                    obtain ⟨x0, x1, x2⟩ := HX.out w1 hb1
                    go_wp2_with fail
                    refine (weekR_calls s.week _).mono ?_
                    rintro e w' ⟨rfl, rfl⟩
                    rw [HW.out]
                    go_wp2_with fail
                    obtain ⟨y0, y1, y2⟩ := HPrev.out w1 sp Hsp.out hb1
                    refine wp_region_held_drew (S := fun w' => Below (wr.alloc (.cells #[.string s.player, .string s.club, .int .i64 s.week] 98)).heap.size (wr.alloc (.cells #[.string s.player, .string s.club, .int .i64 s.week] 98)) w' ∧ w'.cell? ⟨wr.heap.size, 0, none⟩ = some (.string s.player) ∧ w'.cell? ⟨wr.heap.size, 1, none⟩ = some (.string s.club) ∧ w'.cell? ⟨wr.heap.size, 2, none⟩ = some (.int .i64 s.week) ∧ w'.cell? ⟨g, off + (k - 1) * 3, none⟩ = some (.string sp.player) ∧ w'.cell? ⟨g, off + (k - 1) * 3 + 1, none⟩ = some (.string sp.club) ∧ w'.cell? ⟨g, off + (k - 1) * 3 + 2, none⟩ = some (.int .i64 sp.week)) (by kernel_rfl) ?_ (fun hHeld => ?_)
                    · (exact ⟨hb1.drew, (HX.out _ hb1.drew).1, (HX.out _ hb1.drew).2.1, (HX.out _ hb1.drew).2.2, HPrev.out _ sp Hsp.out hb1.drew⟩)
                    refine take_at 0 39 (v := ?_) rfl rfl (by kernel_rfl) (by kernel_rfl) (by kernel_rfl) (fun _ _ _ h => h) (by rfl) ?y0pe (by assumption) ?r0pe
                    case y0pe =>
                      intro w hSw
                      try dsimp only at hSw
                      go_simp
                      try with_reducible rfl
                    simp only [List.set_cons_zero, List.set_cons_succ]
                    refine take_at 1 40 (v := ?_) rfl rfl (by kernel_rfl) (by kernel_rfl) (by kernel_rfl) (fun _ _ _ h => h) (by rfl) ?y1pe (by assumption) ?r1pe
                    case y1pe =>
                      intro w hSw
                      try dsimp only at hSw
                      go_simp
                      try with_reducible rfl
                    simp only [List.set_cons_zero, List.set_cons_succ]
                    refine take_at 2 41 (v := ?_) rfl rfl (by kernel_rfl) (by kernel_rfl) (by kernel_rfl) (fun _ _ _ h => h) (by rfl) ?y2pe (by assumption) ?r2pe
                    case y2pe =>
                      intro w hSw
                      try dsimp only at hSw
                      go_simp
                      try with_reducible rfl
                    simp only [List.set_cons_zero, List.set_cons_succ]
                    refine take_at 3 42 (v := ?_) rfl rfl (by kernel_rfl) (by kernel_rfl) (by kernel_rfl) (fun _ _ _ h => h) (by rfl) ?y3pe (by assumption) ?r3pe
                    case y3pe =>
                      intro w hSw
                      try dsimp only at hSw
                      go_simp
                      try with_reducible rfl
                    simp only [List.set_cons_zero, List.set_cons_succ]
                    refine take_at 4 43 (v := ?_) rfl rfl (by kernel_rfl) (by kernel_rfl) (by kernel_rfl) (fun _ _ _ h => h) (by rfl) ?y4pe (by assumption) ?r4pe
                    case y4pe =>
                      intro w hSw
                      try dsimp only at hSw
                      go_simp
                      try with_reducible rfl
                    simp only [List.set_cons_zero, List.set_cons_succ]
                    refine take_at 5 44 (v := ?_) rfl rfl (by kernel_rfl) (by kernel_rfl) (by kernel_rfl) (fun _ _ _ h => h) (by rfl) ?y5pe (by assumption) ?r5pe
                    case y5pe =>
                      intro w hSw
                      try dsimp only at hSw
                      go_simp
                      try with_reducible rfl
                    simp only [List.set_cons_zero, List.set_cons_succ]
                    refine take_at 6 45 (v := ?_) rfl rfl (by kernel_rfl) (by kernel_rfl) (by kernel_rfl) (fun _ _ _ h => h) (by rfl) ?y6pe (by assumption) ?r6pe
                    case y6pe =>
                      intro w hSw
                      try dsimp only at hSw
                      go_simp
                      try with_reducible rfl
                    simp only [List.set_cons_zero, List.set_cons_succ]
                    refine take_at 7 46 (v := ?_) rfl rfl (by kernel_rfl) (by kernel_rfl) (by kernel_rfl) (fun _ _ _ h => h) (by rfl) ?y7pe (by assumption) ?r7pe
                    case y7pe =>
                      intro w hSw
                      try dsimp only at hSw
                      go_simp
                      try with_reducible rfl
                    simp only [List.set_cons_zero, List.set_cons_succ]
                    refine take_at 8 47 (v := ?_) rfl rfl (by kernel_rfl) (by kernel_rfl) (by kernel_rfl) (fun _ _ _ h => h) (by rfl) ?y8pe (by assumption) ?r8pe
                    case y8pe =>
                      intro w hSw
                      try dsimp only at hSw
                      go_simp
                      try with_reducible rfl
                    simp only [List.set_cons_zero, List.set_cons_succ]
                    refine take_at 9 48 (v := ?_) rfl rfl (by kernel_rfl) (by kernel_rfl) (by kernel_rfl) (fun _ _ _ h => h) (by rfl) ?y9pe (by assumption) ?r9pe
                    case y9pe =>
                      intro w hSw
                      try dsimp only at hSw
                      go_simp
                      try with_reducible rfl
                    simp only [List.set_cons_zero, List.set_cons_succ]
                    refine take_at 10 49 (v := ?_) rfl rfl (by kernel_rfl) (by kernel_rfl) (by kernel_rfl) (fun _ _ _ h => h) (by rfl) ?y10pe (by assumption) ?r10pe
                    case y10pe =>
                      intro w hSw
                      try dsimp only at hSw
                      go_simp
                      try with_reducible rfl
                    simp only [List.set_cons_zero, List.set_cons_succ]
                    refine take_at 11 50 (v := ?_) rfl rfl (by kernel_rfl) (by kernel_rfl) (by kernel_rfl) (fun _ _ _ h => h) (by rfl) ?y11pe (by assumption) ?r11pe
                    case y11pe =>
                      intro w hSw
                      try dsimp only at hSw
                      go_simp
                      try with_reducible rfl
                    simp only [List.set_cons_zero, List.set_cons_succ]
                    refine take_at 12 51 (v := ?_) rfl rfl (by kernel_rfl) (by kernel_rfl) (by kernel_rfl) (fun _ _ _ h => h) (by rfl) ?y12pe (by assumption) ?r12pe
                    case y12pe =>
                      intro w hSw
                      try dsimp only at hSw
                      go_simp
                      try with_reducible rfl
                    simp only [List.set_cons_zero, List.set_cons_succ]
                    refine take_at 13 52 (v := ?_) rfl rfl (by kernel_rfl) (by kernel_rfl) (by kernel_rfl) (fun _ _ _ h => h) (by rfl) ?y13pe (by assumption) ?r13pe
                    case y13pe =>
                      intro w hSw
                      try dsimp only at hSw
                      go_simp
                      try with_reducible rfl
                    simp only [List.set_cons_zero, List.set_cons_succ]
                    refine take_at 14 53 (v := ?_) rfl rfl (by kernel_rfl) (by kernel_rfl) (by kernel_rfl) (fun _ _ _ h => h) (by rfl) ?y14pe (by assumption) ?r14pe
                    case y14pe =>
                      intro w hSw
                      try dsimp only at hSw
                      go_simp
                      try with_reducible rfl
                    simp only [List.set_cons_zero, List.set_cons_succ]
                    refine take_at 15 54 (v := ?_) rfl rfl (by kernel_rfl) (by kernel_rfl) (by kernel_rfl) (fun _ _ _ h => h) (by rfl) ?y15pe (by assumption) ?r15pe
                    case y15pe =>
                      intro w hSw
                      try dsimp only at hSw
                      go_simp
                      try with_reducible rfl
                    simp only [List.set_cons_zero, List.set_cons_succ]
                    refine take_at 16 55 (v := ?_) rfl rfl (by kernel_rfl) (by kernel_rfl) (by kernel_rfl) (fun _ _ _ h => h) (by rfl) ?y16pe (by assumption) ?r16pe
                    case y16pe =>
                      intro w hSw
                      try dsimp only at hSw
                      go_simp
                      try with_reducible rfl
                    simp only [List.set_cons_zero, List.set_cons_succ]
                    refine take_at 17 56 (v := ?_) rfl rfl (by kernel_rfl) (by kernel_rfl) (by kernel_rfl) (fun _ _ _ h => h) (by rfl) ?y17pe (by assumption) ?r17pe
                    case y17pe =>
                      intro w hSw
                      try dsimp only at hSw
                      go_simp
                      try with_reducible rfl
                    simp only [List.set_cons_zero, List.set_cons_succ]
                    refine take_at 18 57 (v := ?_) rfl rfl (by kernel_rfl) (by kernel_rfl) (by kernel_rfl) (fun _ _ _ h => h) (by rfl) ?y18pe (by assumption) ?r18pe
                    case y18pe =>
                      intro w hSw
                      try dsimp only at hSw
                      go_simp
                      try with_reducible rfl
                    simp only [List.set_cons_zero, List.set_cons_succ]
                    refine take_at 19 58 (v := ?_) rfl rfl (by kernel_rfl) (by kernel_rfl) (by kernel_rfl) (fun _ _ _ h => h) (by rfl) ?y19pe (by assumption) ?r19pe
                    case y19pe =>
                      intro w hSw
                      try dsimp only at hSw
                      go_simp
                      try with_reducible rfl
                    simp only [List.set_cons_zero, List.set_cons_succ]
                    refine take_at 20 59 (v := ?_) rfl rfl (by kernel_rfl) (by kernel_rfl) (by kernel_rfl) (fun _ _ _ h => h) (by rfl) ?y20pe (by assumption) ?r20pe
                    case y20pe =>
                      intro w hSw
                      try dsimp only at hSw
                      go_simp
                      try with_reducible rfl
                    simp only [List.set_cons_zero, List.set_cons_succ]
                    refine take_at 21 60 (v := ?_) rfl rfl (by kernel_rfl) (by kernel_rfl) (by kernel_rfl) (fun _ _ _ h => h) (by rfl) ?y21pe (by assumption) ?r21pe
                    case y21pe =>
                      intro w hSw
                      try dsimp only at hSw
                      go_simp
                      try with_reducible rfl
                    simp only [List.set_cons_zero, List.set_cons_succ]
                    refine take_at 22 61 (v := ?_) rfl rfl (by kernel_rfl) (by kernel_rfl) (by kernel_rfl) (fun _ _ _ h => h) (by rfl) ?y22pe (by assumption) ?r22pe
                    case y22pe =>
                      intro w hSw
                      try dsimp only at hSw
                      go_simp
                      try with_reducible rfl
                    simp only [List.set_cons_zero, List.set_cons_succ]
                    refine take_at 23 62 (v := ?_) rfl rfl (by kernel_rfl) (by kernel_rfl) (by kernel_rfl) (fun _ _ _ h => h) (by rfl) ?y23pe (by assumption) ?r23pe
                    case y23pe =>
                      intro w hSw
                      try dsimp only at hSw
                      go_simp
                      try with_reducible rfl
                    simp only [List.set_cons_zero, List.set_cons_succ]
                    refine take_at 24 63 (v := ?_) rfl rfl (by kernel_rfl) (by kernel_rfl) (by kernel_rfl) (fun _ _ _ h => h) (by rfl) ?y24pe (by assumption) ?r24pe
                    case y24pe =>
                      intro w hSw
                      try dsimp only at hSw
                      go_simp
                      try with_reducible rfl
                    simp only [List.set_cons_zero, List.set_cons_succ]
                    refine take_at 25 64 (v := ?_) rfl rfl (by kernel_rfl) (by kernel_rfl) (by kernel_rfl) (fun _ _ _ h => h) (by rfl) ?y25pe (by assumption) ?r25pe
                    case y25pe =>
                      intro w hSw
                      try dsimp only at hSw
                      go_simp
                      try with_reducible rfl
                    simp only [List.set_cons_zero, List.set_cons_succ]
                    refine take_at 26 65 (v := ?_) rfl rfl (by kernel_rfl) (by kernel_rfl) (by kernel_rfl) (fun _ _ _ h => h) (by rfl) ?y26pe (by assumption) ?r26pe
                    case y26pe =>
                      intro w hSw
                      try dsimp only at hSw
                      go_simp
                      try with_reducible rfl
                    simp only [List.set_cons_zero, List.set_cons_succ]
                    refine take_at 27 66 (v := ?_) rfl rfl (by kernel_rfl) (by kernel_rfl) (by kernel_rfl) (fun _ _ _ h => h) (by rfl) ?y27pe (by assumption) ?r27pe
                    case y27pe =>
                      intro w hSw
                      try dsimp only at hSw
                      go_simp
                      try with_reducible rfl
                    simp only [List.set_cons_zero, List.set_cons_succ]
                    refine take_at 28 67 (v := ?_) rfl rfl (by kernel_rfl) (by kernel_rfl) (by kernel_rfl) (fun _ _ _ h => h) (by rfl) ?y28pe (by assumption) ?r28pe
                    case y28pe =>
                      intro w hSw
                      try dsimp only at hSw
                      go_simp
                      try with_reducible rfl
                    simp only [List.set_cons_zero, List.set_cons_succ]
                    refine take_at 29 68 (v := ?_) rfl rfl (by kernel_rfl) (by kernel_rfl) (by kernel_rfl) (fun _ _ _ h => h) (by rfl) ?y29pe (by assumption) ?r29pe
                    case y29pe =>
                      intro w hSw
                      try dsimp only at hSw
                      go_simp
                      try with_reducible rfl
                    simp only [List.set_cons_zero, List.set_cons_succ]
                    refine take_at 30 69 (v := ?_) rfl rfl (by kernel_rfl) (by kernel_rfl) (by kernel_rfl) (fun _ _ _ h => h) (by rfl) ?y30pe (by assumption) ?r30pe
                    case y30pe =>
                      intro w hSw
                      try dsimp only at hSw
                      go_simp
                      try with_reducible rfl
                    simp only [List.set_cons_zero, List.set_cons_succ]
                    refine take_at 31 70 (v := ?_) rfl rfl (by kernel_rfl) (by kernel_rfl) (by kernel_rfl) (fun _ _ _ h => h) (by rfl) ?y31pe (by assumption) ?r31pe
                    case y31pe =>
                      intro w hSw
                      try dsimp only at hSw
                      go_simp
                      try with_reducible rfl
                    simp only [List.set_cons_zero, List.set_cons_succ]
                    refine take_at 32 71 (v := ?_) rfl rfl (by kernel_rfl) (by kernel_rfl) (by kernel_rfl) (fun _ _ _ h => h) (by rfl) ?y32pe (by assumption) ?r32pe
                    case y32pe =>
                      intro w hSw
                      try dsimp only at hSw
                      go_simp
                      try with_reducible rfl
                    simp only [List.set_cons_zero, List.set_cons_succ]
                    refine take_at 33 72 (v := ?_) rfl rfl (by kernel_rfl) (by kernel_rfl) (by kernel_rfl) (fun _ _ _ h => h) (by rfl) ?y33pe (by assumption) ?r33pe
                    case y33pe =>
                      intro w hSw
                      try dsimp only at hSw
                      go_simp
                      try with_reducible rfl
                    simp only [List.set_cons_zero, List.set_cons_succ]
                    refine take_at 34 73 (v := ?_) rfl rfl (by kernel_rfl) (by kernel_rfl) (by kernel_rfl) (fun _ _ _ h => h) (by rfl) ?y34pe (by assumption) ?r34pe
                    case y34pe =>
                      intro w hSw
                      try dsimp only at hSw
                      go_simp
                      try with_reducible rfl
                    simp only [List.set_cons_zero, List.set_cons_succ]
                    refine take_at 35 38 (v := ?_) rfl rfl (by kernel_rfl) (by kernel_rfl) (by kernel_rfl) (fun _ _ _ h => h) (by rfl) ?y35pe (by assumption) ?r35pe
                    case y35pe =>
                      intro w hSw
                      try dsimp only at hSw
                      go_simp
                      try with_reducible rfl
                    simp only [List.set_cons_zero, List.set_cons_succ]
                    refine wpAnyH_done (by kernel_rfl) ?_ _
                    go_wp2_with fail
                    go_roundw
                    case rel => exact ⟨k + 1, by omega, by go_num, below_step hbo hHeld.1, Hgo⟩
                    case measure => simp [intOf]; omega

              · have el : Op.bytesLess s.player.toList sp.player.toList = true := hl
                have HT := Lib.hid (stH_fall Hsk.out Hsp.out Hz.out HH.out HC.out HW.out (cmpSt_lt hl))
                clear hl
                go_wp2_with fail
                refine (playerAt_yes lo' s.player _ ps _ HPo.out HH.out).mono ?_
                rintro e w1 ⟨r, rfl, hb1⟩
                obtain ⟨x0, x1, x2⟩ := HX.out w1 hb1
                go_wp2_with fail
                refine (weekR_calls s.week _).mono ?_
                rintro e w' ⟨rfl, rfl⟩
                rw [HW.out]
                go_wp2_with fail
                obtain ⟨y0, y1, y2⟩ := HPrev.out w1 sp Hsp.out hb1
                refine wp_region_held_drew (S := fun w' => Below (wr.alloc (.cells #[.string s.player, .string s.club, .int .i64 s.week] 98)).heap.size (wr.alloc (.cells #[.string s.player, .string s.club, .int .i64 s.week] 98)) w' ∧ w'.cell? ⟨wr.heap.size, 0, none⟩ = some (.string s.player) ∧ w'.cell? ⟨wr.heap.size, 1, none⟩ = some (.string s.club) ∧ w'.cell? ⟨wr.heap.size, 2, none⟩ = some (.int .i64 s.week) ∧ w'.cell? ⟨g, off + (k - 1) * 3, none⟩ = some (.string sp.player) ∧ w'.cell? ⟨g, off + (k - 1) * 3 + 1, none⟩ = some (.string sp.club) ∧ w'.cell? ⟨g, off + (k - 1) * 3 + 2, none⟩ = some (.int .i64 sp.week)) (by kernel_rfl) ?_ (fun hHeld => ?_)
                · (exact ⟨hb1.drew, (HX.out _ hb1.drew).1, (HX.out _ hb1.drew).2.1, (HX.out _ hb1.drew).2.2, HPrev.out _ sp Hsp.out hb1.drew⟩)
                refine take_at 0 39 (v := ?_) rfl rfl (by kernel_rfl) (by kernel_rfl) (by kernel_rfl) (fun _ _ _ h => h) (by rfl) ?y0pb (by assumption) ?r0pb
                case y0pb =>
                  intro w hSw
                  try dsimp only at hSw
                  go_simp
                  try with_reducible rfl
                simp only [List.set_cons_zero, List.set_cons_succ]
                refine take_at 1 40 (v := ?_) rfl rfl (by kernel_rfl) (by kernel_rfl) (by kernel_rfl) (fun _ _ _ h => h) (by rfl) ?y1pb (by assumption) ?r1pb
                case y1pb =>
                  intro w hSw
                  try dsimp only at hSw
                  go_simp
                  try with_reducible rfl
                simp only [List.set_cons_zero, List.set_cons_succ]
                refine take_at 2 41 (v := ?_) rfl rfl (by kernel_rfl) (by kernel_rfl) (by kernel_rfl) (fun _ _ _ h => h) (by rfl) ?y2pb (by assumption) ?r2pb
                case y2pb =>
                  intro w hSw
                  try dsimp only at hSw
                  go_simp
                  try with_reducible rfl
                simp only [List.set_cons_zero, List.set_cons_succ]
                refine take_at 3 42 (v := ?_) rfl rfl (by kernel_rfl) (by kernel_rfl) (by kernel_rfl) (fun _ _ _ h => h) (by rfl) ?y3pb (by assumption) ?r3pb
                case y3pb =>
                  intro w hSw
                  try dsimp only at hSw
                  go_simp
                  try with_reducible rfl
                simp only [List.set_cons_zero, List.set_cons_succ]
                refine take_at 4 43 (v := ?_) rfl rfl (by kernel_rfl) (by kernel_rfl) (by kernel_rfl) (fun _ _ _ h => h) (by rfl) ?y4pb (by assumption) ?r4pb
                case y4pb =>
                  intro w hSw
                  try dsimp only at hSw
                  go_simp
                  try with_reducible rfl
                simp only [List.set_cons_zero, List.set_cons_succ]
                refine take_at 5 44 (v := ?_) rfl rfl (by kernel_rfl) (by kernel_rfl) (by kernel_rfl) (fun _ _ _ h => h) (by rfl) ?y5pb (by assumption) ?r5pb
                case y5pb =>
                  intro w hSw
                  try dsimp only at hSw
                  go_simp
                  try with_reducible rfl
                simp only [List.set_cons_zero, List.set_cons_succ]
                refine take_at 6 45 (v := ?_) rfl rfl (by kernel_rfl) (by kernel_rfl) (by kernel_rfl) (fun _ _ _ h => h) (by rfl) ?y6pb (by assumption) ?r6pb
                case y6pb =>
                  intro w hSw
                  try dsimp only at hSw
                  go_simp
                  try with_reducible rfl
                simp only [List.set_cons_zero, List.set_cons_succ]
                refine take_at 7 46 (v := ?_) rfl rfl (by kernel_rfl) (by kernel_rfl) (by kernel_rfl) (fun _ _ _ h => h) (by rfl) ?y7pb (by assumption) ?r7pb
                case y7pb =>
                  intro w hSw
                  try dsimp only at hSw
                  go_simp
                  try with_reducible rfl
                simp only [List.set_cons_zero, List.set_cons_succ]
                refine take_at 8 47 (v := ?_) rfl rfl (by kernel_rfl) (by kernel_rfl) (by kernel_rfl) (fun _ _ _ h => h) (by rfl) ?y8pb (by assumption) ?r8pb
                case y8pb =>
                  intro w hSw
                  try dsimp only at hSw
                  go_simp
                  try with_reducible rfl
                simp only [List.set_cons_zero, List.set_cons_succ]
                refine take_at 9 48 (v := ?_) rfl rfl (by kernel_rfl) (by kernel_rfl) (by kernel_rfl) (fun _ _ _ h => h) (by rfl) ?y9pb (by assumption) ?r9pb
                case y9pb =>
                  intro w hSw
                  try dsimp only at hSw
                  go_simp
                  try with_reducible rfl
                simp only [List.set_cons_zero, List.set_cons_succ]
                refine take_at 10 49 (v := ?_) rfl rfl (by kernel_rfl) (by kernel_rfl) (by kernel_rfl) (fun _ _ _ h => h) (by rfl) ?y10pb (by assumption) ?r10pb
                case y10pb =>
                  intro w hSw
                  try dsimp only at hSw
                  go_simp
                  try with_reducible rfl
                simp only [List.set_cons_zero, List.set_cons_succ]
                refine take_at 11 50 (v := ?_) rfl rfl (by kernel_rfl) (by kernel_rfl) (by kernel_rfl) (fun _ _ _ h => h) (by rfl) ?y11pb (by assumption) ?r11pb
                case y11pb =>
                  intro w hSw
                  try dsimp only at hSw
                  go_simp
                  try with_reducible rfl
                simp only [List.set_cons_zero, List.set_cons_succ]
                refine take_at 12 51 (v := ?_) rfl rfl (by kernel_rfl) (by kernel_rfl) (by kernel_rfl) (fun _ _ _ h => h) (by rfl) ?y12pb (by assumption) ?r12pb
                case y12pb =>
                  intro w hSw
                  try dsimp only at hSw
                  go_simp
                  try with_reducible rfl
                simp only [List.set_cons_zero, List.set_cons_succ]
                refine skip_at 13 52 rfl rfl (by kernel_rfl) (by kernel_rfl) (by kernel_rfl) (fun _ _ _ h => h) (by rfl) (by assumption) ?_
                simp only [List.set_cons_zero, List.set_cons_succ]
                refine skip_at 14 53 rfl rfl (by kernel_rfl) (by kernel_rfl) (by kernel_rfl) (fun _ _ _ h => h) (by rfl) (by assumption) ?_
                simp only [List.set_cons_zero, List.set_cons_succ]
                refine skip_at 15 54 rfl rfl (by kernel_rfl) (by kernel_rfl) (by kernel_rfl) (fun _ _ _ h => h) (by rfl) (by assumption) ?_
                simp only [List.set_cons_zero, List.set_cons_succ]
                refine skip_at 16 55 rfl rfl (by kernel_rfl) (by kernel_rfl) (by kernel_rfl) (fun _ _ _ h => h) (by rfl) (by assumption) ?_
                simp only [List.set_cons_zero, List.set_cons_succ]
                refine skip_at 17 56 rfl rfl (by kernel_rfl) (by kernel_rfl) (by kernel_rfl) (fun _ _ _ h => h) (by rfl) (by assumption) ?_
                simp only [List.set_cons_zero, List.set_cons_succ]
                refine skip_at 18 57 rfl rfl (by kernel_rfl) (by kernel_rfl) (by kernel_rfl) (fun _ _ _ h => h) (by rfl) (by assumption) ?_
                simp only [List.set_cons_zero, List.set_cons_succ]
                refine skip_at 19 58 rfl rfl (by kernel_rfl) (by kernel_rfl) (by kernel_rfl) (fun _ _ _ h => h) (by rfl) (by assumption) ?_
                simp only [List.set_cons_zero, List.set_cons_succ]
                refine skip_at 20 59 rfl rfl (by kernel_rfl) (by kernel_rfl) (by kernel_rfl) (fun _ _ _ h => h) (by rfl) (by assumption) ?_
                simp only [List.set_cons_zero, List.set_cons_succ]
                refine skip_at 21 60 rfl rfl (by kernel_rfl) (by kernel_rfl) (by kernel_rfl) (fun _ _ _ h => h) (by rfl) (by assumption) ?_
                simp only [List.set_cons_zero, List.set_cons_succ]
                refine skip_at 22 61 rfl rfl (by kernel_rfl) (by kernel_rfl) (by kernel_rfl) (fun _ _ _ h => h) (by rfl) (by assumption) ?_
                simp only [List.set_cons_zero, List.set_cons_succ]
                refine skip_at 23 62 rfl rfl (by kernel_rfl) (by kernel_rfl) (by kernel_rfl) (fun _ _ _ h => h) (by rfl) (by assumption) ?_
                simp only [List.set_cons_zero, List.set_cons_succ]
                refine skip_at 24 63 rfl rfl (by kernel_rfl) (by kernel_rfl) (by kernel_rfl) (fun _ _ _ h => h) (by rfl) (by assumption) ?_
                simp only [List.set_cons_zero, List.set_cons_succ]
                refine skip_at 25 64 rfl rfl (by kernel_rfl) (by kernel_rfl) (by kernel_rfl) (fun _ _ _ h => h) (by rfl) (by assumption) ?_
                simp only [List.set_cons_zero, List.set_cons_succ]
                refine skip_at 26 65 rfl rfl (by kernel_rfl) (by kernel_rfl) (by kernel_rfl) (fun _ _ _ h => h) (by rfl) (by assumption) ?_
                simp only [List.set_cons_zero, List.set_cons_succ]
                refine skip_at 27 66 rfl rfl (by kernel_rfl) (by kernel_rfl) (by kernel_rfl) (fun _ _ _ h => h) (by rfl) (by assumption) ?_
                simp only [List.set_cons_zero, List.set_cons_succ]
                refine skip_at 28 67 rfl rfl (by kernel_rfl) (by kernel_rfl) (by kernel_rfl) (fun _ _ _ h => h) (by rfl) (by assumption) ?_
                simp only [List.set_cons_zero, List.set_cons_succ]
                refine skip_at 29 68 rfl rfl (by kernel_rfl) (by kernel_rfl) (by kernel_rfl) (fun _ _ _ h => h) (by rfl) (by assumption) ?_
                simp only [List.set_cons_zero, List.set_cons_succ]
                refine skip_at 30 69 rfl rfl (by kernel_rfl) (by kernel_rfl) (by kernel_rfl) (fun _ _ _ h => h) (by rfl) (by assumption) ?_
                simp only [List.set_cons_zero, List.set_cons_succ]
                refine skip_at 31 70 rfl rfl (by kernel_rfl) (by kernel_rfl) (by kernel_rfl) (fun _ _ _ h => h) (by rfl) (by assumption) ?_
                simp only [List.set_cons_zero, List.set_cons_succ]
                refine skip_at 32 71 rfl rfl (by kernel_rfl) (by kernel_rfl) (by kernel_rfl) (fun _ _ _ h => h) (by rfl) (by assumption) ?_
                simp only [List.set_cons_zero, List.set_cons_succ]
                refine take_at 33 72 (v := ?_) rfl rfl (by kernel_rfl) (by kernel_rfl) (by kernel_rfl) (fun _ _ _ h => h) (by rfl) ?y33pb (by assumption) ?r33pb
                case y33pb =>
                  intro w hSw
                  try dsimp only at hSw
                  go_simp
                  try with_reducible rfl
                simp only [List.set_cons_zero, List.set_cons_succ]
                refine take_at 34 73 (v := ?_) rfl rfl (by kernel_rfl) (by kernel_rfl) (by kernel_rfl) (fun _ _ _ h => h) (by rfl) ?y34pb (by assumption) ?r34pb
                case y34pb =>
                  intro w hSw
                  try dsimp only at hSw
                  go_simp
                  try with_reducible rfl
                simp only [List.set_cons_zero, List.set_cons_succ]
                refine take_at 35 38 (v := ?_) rfl rfl (by kernel_rfl) (by kernel_rfl) (by kernel_rfl) (fun _ _ _ h => h) (by rfl) ?y35pb (by assumption) ?r35pb
                case y35pb =>
                  intro w hSw
                  try dsimp only at hSw
                  go_simp
                  try with_reducible rfl
                simp only [List.set_cons_zero, List.set_cons_succ]
                refine wpAnyH_done (by kernel_rfl) ?_ _
                go_wp2_with fail
                go_ret
                exact ⟨ret_int (by rw [Hhit.out (by rw [HT.out]; decide), HT.out]), below_step hbo hHeld.1⟩

          · have HW := Lib.hid (show betwB s.week 1 60 = false by simpa using hw6)
            have HT := Lib.hid (stH_week Hsk.out HH.out HC.out HW.out)
            clear hw6
            go_wp2_with fail
            refine (playerAt_yes lo' s.player _ ps _ HPo.out HH.out).mono ?_
            rintro e w1 ⟨r, rfl, hb1⟩
            obtain ⟨x0, x1, x2⟩ := HX.out w1 hb1
            go_wp2_with fail
            refine (weekR_calls s.week _).mono ?_
            rintro e w' ⟨rfl, rfl⟩
            rw [HW.out]
            go_wp2_with fail
            go_ret
            exact ⟨ret_int (by rw [Hhit.out (by rw [HT.out]; decide), HT.out]), below_step hbo hb1⟩

        · have ec : s.club.toList.isEmpty = false := by rw [HEm.out]; simp [hc0]
          by_cases hky : keyB s.club = true
          · have HK := Lib.hid hky
            have HC := Lib.hid (show clubOk s = true by unfold clubOk; rw [HK.out]; simp)
            clear hc0 hky
            by_cases hw6 : betwB s.week 1 60 = true
            · have HW := Lib.hid hw6
              clear hw6
              by_cases hz : k = 0
              · have Hgo := Lib.hid (Hnext.out (stH_ok Hsk.out HH.out HC.out HW.out (.inl hz)))
                have e0 : decide (0 < k) = false := by rw [decide_eq_false_iff_not]; omega
                clear hz
                go_wp2_with fail
                refine (playerAt_yes lo' s.player _ ps _ HPo.out HH.out).mono ?_
                rintro e w1 ⟨r, rfl, hb1⟩
                obtain ⟨x0, x1, x2⟩ := HX.out w1 hb1
                go_wp2_with fail
                refine (keyR_calls s.club _ (by omega)).mono ?_
                rintro e w' ⟨rfl, rfl⟩
                rw [HK.out]
                go_wp2_with fail
                refine (weekR_calls s.week _).mono ?_
                rintro e w' ⟨rfl, rfl⟩
                rw [HW.out]
                go_wp2_with fail
                refine wp_region_held_drew (S := fun w' => Below (wr.alloc (.cells #[.string s.player, .string s.club, .int .i64 s.week] 98)).heap.size (wr.alloc (.cells #[.string s.player, .string s.club, .int .i64 s.week] 98)) w' ∧ w'.cell? ⟨wr.heap.size, 0, none⟩ = some (.string s.player) ∧ w'.cell? ⟨wr.heap.size, 1, none⟩ = some (.string s.club) ∧ w'.cell? ⟨wr.heap.size, 2, none⟩ = some (.int .i64 s.week)) (by kernel_rfl) ?_ (fun hHeld => ?_)
                · (exact ⟨hb1.drew, HX.out _ hb1.drew⟩)
                refine take_at 0 39 (v := ?_) rfl rfl (by kernel_rfl) (by kernel_rfl) (by kernel_rfl) (fun _ _ _ h => h) (by rfl) ?y0qa (by assumption) ?r0qa
                case y0qa =>
                  intro w hSw
                  try dsimp only at hSw
                  go_simp
                  try with_reducible rfl
                simp only [List.set_cons_zero, List.set_cons_succ]
                refine take_at 1 40 (v := ?_) rfl rfl (by kernel_rfl) (by kernel_rfl) (by kernel_rfl) (fun _ _ _ h => h) (by rfl) ?y1qa (by assumption) ?r1qa
                case y1qa =>
                  intro w hSw
                  try dsimp only at hSw
                  go_simp
                  try with_reducible rfl
                simp only [List.set_cons_zero, List.set_cons_succ]
                refine take_at 2 41 (v := ?_) rfl rfl (by kernel_rfl) (by kernel_rfl) (by kernel_rfl) (fun _ _ _ h => h) (by rfl) ?y2qa (by assumption) ?r2qa
                case y2qa =>
                  intro w hSw
                  try dsimp only at hSw
                  go_simp
                  try with_reducible rfl
                simp only [List.set_cons_zero, List.set_cons_succ]
                refine skip_at 3 42 rfl rfl (by kernel_rfl) (by kernel_rfl) (by kernel_rfl) (fun _ _ _ h => h) (by rfl) (by assumption) ?_
                simp only [List.set_cons_zero, List.set_cons_succ]
                refine skip_at 4 43 rfl rfl (by kernel_rfl) (by kernel_rfl) (by kernel_rfl) (fun _ _ _ h => h) (by rfl) (by assumption) ?_
                simp only [List.set_cons_zero, List.set_cons_succ]
                refine skip_at 5 44 rfl rfl (by kernel_rfl) (by kernel_rfl) (by kernel_rfl) (fun _ _ _ h => h) (by rfl) (by assumption) ?_
                simp only [List.set_cons_zero, List.set_cons_succ]
                refine skip_at 6 45 rfl rfl (by kernel_rfl) (by kernel_rfl) (by kernel_rfl) (fun _ _ _ h => h) (by rfl) (by assumption) ?_
                simp only [List.set_cons_zero, List.set_cons_succ]
                refine skip_at 7 46 rfl rfl (by kernel_rfl) (by kernel_rfl) (by kernel_rfl) (fun _ _ _ h => h) (by rfl) (by assumption) ?_
                simp only [List.set_cons_zero, List.set_cons_succ]
                refine skip_at 8 47 rfl rfl (by kernel_rfl) (by kernel_rfl) (by kernel_rfl) (fun _ _ _ h => h) (by rfl) (by assumption) ?_
                simp only [List.set_cons_zero, List.set_cons_succ]
                refine skip_at 9 48 rfl rfl (by kernel_rfl) (by kernel_rfl) (by kernel_rfl) (fun _ _ _ h => h) (by rfl) (by assumption) ?_
                simp only [List.set_cons_zero, List.set_cons_succ]
                refine skip_at 10 49 rfl rfl (by kernel_rfl) (by kernel_rfl) (by kernel_rfl) (fun _ _ _ h => h) (by rfl) (by assumption) ?_
                simp only [List.set_cons_zero, List.set_cons_succ]
                refine skip_at 11 50 rfl rfl (by kernel_rfl) (by kernel_rfl) (by kernel_rfl) (fun _ _ _ h => h) (by rfl) (by assumption) ?_
                simp only [List.set_cons_zero, List.set_cons_succ]
                refine skip_at 12 51 rfl rfl (by kernel_rfl) (by kernel_rfl) (by kernel_rfl) (fun _ _ _ h => h) (by rfl) (by assumption) ?_
                simp only [List.set_cons_zero, List.set_cons_succ]
                refine skip_at 13 52 rfl rfl (by kernel_rfl) (by kernel_rfl) (by kernel_rfl) (fun _ _ _ h => h) (by rfl) (by assumption) ?_
                simp only [List.set_cons_zero, List.set_cons_succ]
                refine skip_at 14 53 rfl rfl (by kernel_rfl) (by kernel_rfl) (by kernel_rfl) (fun _ _ _ h => h) (by rfl) (by assumption) ?_
                simp only [List.set_cons_zero, List.set_cons_succ]
                refine skip_at 15 54 rfl rfl (by kernel_rfl) (by kernel_rfl) (by kernel_rfl) (fun _ _ _ h => h) (by rfl) (by assumption) ?_
                simp only [List.set_cons_zero, List.set_cons_succ]
                refine skip_at 16 55 rfl rfl (by kernel_rfl) (by kernel_rfl) (by kernel_rfl) (fun _ _ _ h => h) (by rfl) (by assumption) ?_
                simp only [List.set_cons_zero, List.set_cons_succ]
                refine skip_at 17 56 rfl rfl (by kernel_rfl) (by kernel_rfl) (by kernel_rfl) (fun _ _ _ h => h) (by rfl) (by assumption) ?_
                simp only [List.set_cons_zero, List.set_cons_succ]
                refine skip_at 18 57 rfl rfl (by kernel_rfl) (by kernel_rfl) (by kernel_rfl) (fun _ _ _ h => h) (by rfl) (by assumption) ?_
                simp only [List.set_cons_zero, List.set_cons_succ]
                refine skip_at 19 58 rfl rfl (by kernel_rfl) (by kernel_rfl) (by kernel_rfl) (fun _ _ _ h => h) (by rfl) (by assumption) ?_
                simp only [List.set_cons_zero, List.set_cons_succ]
                refine skip_at 20 59 rfl rfl (by kernel_rfl) (by kernel_rfl) (by kernel_rfl) (fun _ _ _ h => h) (by rfl) (by assumption) ?_
                simp only [List.set_cons_zero, List.set_cons_succ]
                refine skip_at 21 60 rfl rfl (by kernel_rfl) (by kernel_rfl) (by kernel_rfl) (fun _ _ _ h => h) (by rfl) (by assumption) ?_
                simp only [List.set_cons_zero, List.set_cons_succ]
                refine skip_at 22 61 rfl rfl (by kernel_rfl) (by kernel_rfl) (by kernel_rfl) (fun _ _ _ h => h) (by rfl) (by assumption) ?_
                simp only [List.set_cons_zero, List.set_cons_succ]
                refine skip_at 23 62 rfl rfl (by kernel_rfl) (by kernel_rfl) (by kernel_rfl) (fun _ _ _ h => h) (by rfl) (by assumption) ?_
                simp only [List.set_cons_zero, List.set_cons_succ]
                refine skip_at 24 63 rfl rfl (by kernel_rfl) (by kernel_rfl) (by kernel_rfl) (fun _ _ _ h => h) (by rfl) (by assumption) ?_
                simp only [List.set_cons_zero, List.set_cons_succ]
                refine skip_at 25 64 rfl rfl (by kernel_rfl) (by kernel_rfl) (by kernel_rfl) (fun _ _ _ h => h) (by rfl) (by assumption) ?_
                simp only [List.set_cons_zero, List.set_cons_succ]
                refine skip_at 26 65 rfl rfl (by kernel_rfl) (by kernel_rfl) (by kernel_rfl) (fun _ _ _ h => h) (by rfl) (by assumption) ?_
                simp only [List.set_cons_zero, List.set_cons_succ]
                refine skip_at 27 66 rfl rfl (by kernel_rfl) (by kernel_rfl) (by kernel_rfl) (fun _ _ _ h => h) (by rfl) (by assumption) ?_
                simp only [List.set_cons_zero, List.set_cons_succ]
                refine skip_at 28 67 rfl rfl (by kernel_rfl) (by kernel_rfl) (by kernel_rfl) (fun _ _ _ h => h) (by rfl) (by assumption) ?_
                simp only [List.set_cons_zero, List.set_cons_succ]
                refine skip_at 29 68 rfl rfl (by kernel_rfl) (by kernel_rfl) (by kernel_rfl) (fun _ _ _ h => h) (by rfl) (by assumption) ?_
                simp only [List.set_cons_zero, List.set_cons_succ]
                refine skip_at 30 69 rfl rfl (by kernel_rfl) (by kernel_rfl) (by kernel_rfl) (fun _ _ _ h => h) (by rfl) (by assumption) ?_
                simp only [List.set_cons_zero, List.set_cons_succ]
                refine skip_at 31 70 rfl rfl (by kernel_rfl) (by kernel_rfl) (by kernel_rfl) (fun _ _ _ h => h) (by rfl) (by assumption) ?_
                simp only [List.set_cons_zero, List.set_cons_succ]
                refine skip_at 32 71 rfl rfl (by kernel_rfl) (by kernel_rfl) (by kernel_rfl) (fun _ _ _ h => h) (by rfl) (by assumption) ?_
                simp only [List.set_cons_zero, List.set_cons_succ]
                refine skip_at 33 72 rfl rfl (by kernel_rfl) (by kernel_rfl) (by kernel_rfl) (fun _ _ _ h => h) (by rfl) (by assumption) ?_
                simp only [List.set_cons_zero, List.set_cons_succ]
                refine take_at 34 73 (v := ?_) rfl rfl (by kernel_rfl) (by kernel_rfl) (by kernel_rfl) (fun _ _ _ h => h) (by rfl) ?y34qa (by assumption) ?r34qa
                case y34qa =>
                  intro w hSw
                  try dsimp only at hSw
                  go_simp
                  try with_reducible rfl
                simp only [List.set_cons_zero, List.set_cons_succ]
                refine take_at 35 38 (v := ?_) rfl rfl (by kernel_rfl) (by kernel_rfl) (by kernel_rfl) (fun _ _ _ h => h) (by rfl) ?y35qa (by assumption) ?r35qa
                case y35qa =>
                  intro w hSw
                  try dsimp only at hSw
                  go_simp
                  try with_reducible rfl
                simp only [List.set_cons_zero, List.set_cons_succ]
                refine wpAnyH_done (by kernel_rfl) ?_ _
                go_wp2_with fail
                go_roundw
                case rel => exact ⟨k + 1, by omega, by go_num, below_step hbo hHeld.1, Hgo⟩
                case measure => simp [intOf]; omega

              · obtain ⟨sp, hsp⟩ : ∃ sp, ss[k - 1]? = some sp := ⟨_, List.getElem?_eq_getElem (show k - 1 < ss.length by omega)⟩
                have e0 : decide (0 < k) = true := by rw [decide_eq_true_eq]; omega
                have wr1 : IntKind.i64.wrap ((k : Int) - 1) = ((k - 1 : Nat) : Int) := by rw [IntWalk.i64_in _ (by omega)]; omega
                have wr2 : ((k - 1 : Nat) : Int) < (ss.length : Int) := by omega
                have Hz := Lib.hid hz
                have Hsp := Lib.hid hsp
                clear hz hsp
                cases hl : ltS s.player sp.player
                · have el : Op.bytesLess s.player.toList sp.player.toList = false := hl
                  cases he : beqS s.player sp.player
                  · have ee : (s.player.toList == sp.player.toList) = false := he
                    have Hgo := Lib.hid (Hnext.out (stH_ok Hsk.out HH.out HC.out HW.out (.inr ⟨sp, Hsp.out, cmpSt_gt hl he⟩)))
                    clear hl he
                    go_wp2_with fail
                    refine (playerAt_yes lo' s.player _ ps _ HPo.out HH.out).mono ?_
                    rintro e w1 ⟨r, rfl, hb1⟩
                    obtain ⟨x0, x1, x2⟩ := HX.out w1 hb1
                    go_wp2_with fail
                    refine (keyR_calls s.club _ (by omega)).mono ?_
                    rintro e w' ⟨rfl, rfl⟩
                    rw [HK.out]
                    go_wp2_with fail
                    refine (weekR_calls s.week _).mono ?_
                    rintro e w' ⟨rfl, rfl⟩
                    rw [HW.out]
                    go_wp2_with fail
                    obtain ⟨y0, y1, y2⟩ := HPrev.out w1 sp Hsp.out hb1
                    refine wp_region_held_drew (S := fun w' => Below (wr.alloc (.cells #[.string s.player, .string s.club, .int .i64 s.week] 98)).heap.size (wr.alloc (.cells #[.string s.player, .string s.club, .int .i64 s.week] 98)) w' ∧ w'.cell? ⟨wr.heap.size, 0, none⟩ = some (.string s.player) ∧ w'.cell? ⟨wr.heap.size, 1, none⟩ = some (.string s.club) ∧ w'.cell? ⟨wr.heap.size, 2, none⟩ = some (.int .i64 s.week) ∧ w'.cell? ⟨g, off + (k - 1) * 3, none⟩ = some (.string sp.player) ∧ w'.cell? ⟨g, off + (k - 1) * 3 + 1, none⟩ = some (.string sp.club) ∧ w'.cell? ⟨g, off + (k - 1) * 3 + 2, none⟩ = some (.int .i64 sp.week)) (by kernel_rfl) ?_ (fun hHeld => ?_)
                    · (exact ⟨hb1.drew, (HX.out _ hb1.drew).1, (HX.out _ hb1.drew).2.1, (HX.out _ hb1.drew).2.2, HPrev.out _ sp Hsp.out hb1.drew⟩)
                    refine take_at 0 39 (v := ?_) rfl rfl (by kernel_rfl) (by kernel_rfl) (by kernel_rfl) (fun _ _ _ h => h) (by rfl) ?y0qc (by assumption) ?r0qc
                    case y0qc =>
                      intro w hSw
                      try dsimp only at hSw
                      go_simp
                      try with_reducible rfl
                    simp only [List.set_cons_zero, List.set_cons_succ]
                    refine take_at 1 40 (v := ?_) rfl rfl (by kernel_rfl) (by kernel_rfl) (by kernel_rfl) (fun _ _ _ h => h) (by rfl) ?y1qc (by assumption) ?r1qc
                    case y1qc =>
                      intro w hSw
                      try dsimp only at hSw
                      go_simp
                      try with_reducible rfl
                    simp only [List.set_cons_zero, List.set_cons_succ]
                    refine take_at 2 41 (v := ?_) rfl rfl (by kernel_rfl) (by kernel_rfl) (by kernel_rfl) (fun _ _ _ h => h) (by rfl) ?y2qc (by assumption) ?r2qc
                    case y2qc =>
                      intro w hSw
                      try dsimp only at hSw
                      go_simp
                      try with_reducible rfl
                    simp only [List.set_cons_zero, List.set_cons_succ]
                    refine take_at 3 42 (v := ?_) rfl rfl (by kernel_rfl) (by kernel_rfl) (by kernel_rfl) (fun _ _ _ h => h) (by rfl) ?y3qc (by assumption) ?r3qc
                    case y3qc =>
                      intro w hSw
                      try dsimp only at hSw
                      go_simp
                      try with_reducible rfl
                    simp only [List.set_cons_zero, List.set_cons_succ]
                    refine take_at 4 43 (v := ?_) rfl rfl (by kernel_rfl) (by kernel_rfl) (by kernel_rfl) (fun _ _ _ h => h) (by rfl) ?y4qc (by assumption) ?r4qc
                    case y4qc =>
                      intro w hSw
                      try dsimp only at hSw
                      go_simp
                      try with_reducible rfl
                    simp only [List.set_cons_zero, List.set_cons_succ]
                    refine take_at 5 44 (v := ?_) rfl rfl (by kernel_rfl) (by kernel_rfl) (by kernel_rfl) (fun _ _ _ h => h) (by rfl) ?y5qc (by assumption) ?r5qc
                    case y5qc =>
                      intro w hSw
                      try dsimp only at hSw
                      go_simp
                      try with_reducible rfl
                    simp only [List.set_cons_zero, List.set_cons_succ]
                    refine take_at 6 45 (v := ?_) rfl rfl (by kernel_rfl) (by kernel_rfl) (by kernel_rfl) (fun _ _ _ h => h) (by rfl) ?y6qc (by assumption) ?r6qc
                    case y6qc =>
                      intro w hSw
                      try dsimp only at hSw
                      go_simp
                      try with_reducible rfl
                    simp only [List.set_cons_zero, List.set_cons_succ]
                    refine take_at 7 46 (v := ?_) rfl rfl (by kernel_rfl) (by kernel_rfl) (by kernel_rfl) (fun _ _ _ h => h) (by rfl) ?y7qc (by assumption) ?r7qc
                    case y7qc =>
                      intro w hSw
                      try dsimp only at hSw
                      go_simp
                      try with_reducible rfl
                    simp only [List.set_cons_zero, List.set_cons_succ]
                    refine take_at 8 47 (v := ?_) rfl rfl (by kernel_rfl) (by kernel_rfl) (by kernel_rfl) (fun _ _ _ h => h) (by rfl) ?y8qc (by assumption) ?r8qc
                    case y8qc =>
                      intro w hSw
                      try dsimp only at hSw
                      go_simp
                      try with_reducible rfl
                    simp only [List.set_cons_zero, List.set_cons_succ]
                    refine take_at 9 48 (v := ?_) rfl rfl (by kernel_rfl) (by kernel_rfl) (by kernel_rfl) (fun _ _ _ h => h) (by rfl) ?y9qc (by assumption) ?r9qc
                    case y9qc =>
                      intro w hSw
                      try dsimp only at hSw
                      go_simp
                      try with_reducible rfl
                    simp only [List.set_cons_zero, List.set_cons_succ]
                    refine take_at 10 49 (v := ?_) rfl rfl (by kernel_rfl) (by kernel_rfl) (by kernel_rfl) (fun _ _ _ h => h) (by rfl) ?y10qc (by assumption) ?r10qc
                    case y10qc =>
                      intro w hSw
                      try dsimp only at hSw
                      go_simp
                      try with_reducible rfl
                    simp only [List.set_cons_zero, List.set_cons_succ]
                    refine take_at 11 50 (v := ?_) rfl rfl (by kernel_rfl) (by kernel_rfl) (by kernel_rfl) (fun _ _ _ h => h) (by rfl) ?y11qc (by assumption) ?r11qc
                    case y11qc =>
                      intro w hSw
                      try dsimp only at hSw
                      go_simp
                      try with_reducible rfl
                    simp only [List.set_cons_zero, List.set_cons_succ]
                    refine take_at 12 51 (v := ?_) rfl rfl (by kernel_rfl) (by kernel_rfl) (by kernel_rfl) (fun _ _ _ h => h) (by rfl) ?y12qc (by assumption) ?r12qc
                    case y12qc =>
                      intro w hSw
                      try dsimp only at hSw
                      go_simp
                      try with_reducible rfl
                    simp only [List.set_cons_zero, List.set_cons_succ]
                    refine take_at 13 52 (v := ?_) rfl rfl (by kernel_rfl) (by kernel_rfl) (by kernel_rfl) (fun _ _ _ h => h) (by rfl) ?y13qc (by assumption) ?r13qc
                    case y13qc =>
                      intro w hSw
                      try dsimp only at hSw
                      go_simp
                      try with_reducible rfl
                    simp only [List.set_cons_zero, List.set_cons_succ]
                    refine take_at 14 53 (v := ?_) rfl rfl (by kernel_rfl) (by kernel_rfl) (by kernel_rfl) (fun _ _ _ h => h) (by rfl) ?y14qc (by assumption) ?r14qc
                    case y14qc =>
                      intro w hSw
                      try dsimp only at hSw
                      go_simp
                      try with_reducible rfl
                    simp only [List.set_cons_zero, List.set_cons_succ]
                    refine take_at 15 54 (v := ?_) rfl rfl (by kernel_rfl) (by kernel_rfl) (by kernel_rfl) (fun _ _ _ h => h) (by rfl) ?y15qc (by assumption) ?r15qc
                    case y15qc =>
                      intro w hSw
                      try dsimp only at hSw
                      go_simp
                      try with_reducible rfl
                    simp only [List.set_cons_zero, List.set_cons_succ]
                    refine take_at 16 55 (v := ?_) rfl rfl (by kernel_rfl) (by kernel_rfl) (by kernel_rfl) (fun _ _ _ h => h) (by rfl) ?y16qc (by assumption) ?r16qc
                    case y16qc =>
                      intro w hSw
                      try dsimp only at hSw
                      go_simp
                      try with_reducible rfl
                    simp only [List.set_cons_zero, List.set_cons_succ]
                    refine take_at 17 56 (v := ?_) rfl rfl (by kernel_rfl) (by kernel_rfl) (by kernel_rfl) (fun _ _ _ h => h) (by rfl) ?y17qc (by assumption) ?r17qc
                    case y17qc =>
                      intro w hSw
                      try dsimp only at hSw
                      go_simp
                      try with_reducible rfl
                    simp only [List.set_cons_zero, List.set_cons_succ]
                    refine take_at 18 57 (v := ?_) rfl rfl (by kernel_rfl) (by kernel_rfl) (by kernel_rfl) (fun _ _ _ h => h) (by rfl) ?y18qc (by assumption) ?r18qc
                    case y18qc =>
                      intro w hSw
                      try dsimp only at hSw
                      go_simp
                      try with_reducible rfl
                    simp only [List.set_cons_zero, List.set_cons_succ]
                    refine take_at 19 58 (v := ?_) rfl rfl (by kernel_rfl) (by kernel_rfl) (by kernel_rfl) (fun _ _ _ h => h) (by rfl) ?y19qc (by assumption) ?r19qc
                    case y19qc =>
                      intro w hSw
                      try dsimp only at hSw
                      go_simp
                      try with_reducible rfl
                    simp only [List.set_cons_zero, List.set_cons_succ]
                    refine take_at 20 59 (v := ?_) rfl rfl (by kernel_rfl) (by kernel_rfl) (by kernel_rfl) (fun _ _ _ h => h) (by rfl) ?y20qc (by assumption) ?r20qc
                    case y20qc =>
                      intro w hSw
                      try dsimp only at hSw
                      go_simp
                      try with_reducible rfl
                    simp only [List.set_cons_zero, List.set_cons_succ]
                    refine take_at 21 60 (v := ?_) rfl rfl (by kernel_rfl) (by kernel_rfl) (by kernel_rfl) (fun _ _ _ h => h) (by rfl) ?y21qc (by assumption) ?r21qc
                    case y21qc =>
                      intro w hSw
                      try dsimp only at hSw
                      go_simp
                      try with_reducible rfl
                    simp only [List.set_cons_zero, List.set_cons_succ]
                    refine take_at 22 61 (v := ?_) rfl rfl (by kernel_rfl) (by kernel_rfl) (by kernel_rfl) (fun _ _ _ h => h) (by rfl) ?y22qc (by assumption) ?r22qc
                    case y22qc =>
                      intro w hSw
                      try dsimp only at hSw
                      go_simp
                      try with_reducible rfl
                    simp only [List.set_cons_zero, List.set_cons_succ]
                    refine skip_at 23 62 rfl rfl (by kernel_rfl) (by kernel_rfl) (by kernel_rfl) (fun _ _ _ h => h) (by rfl) (by assumption) ?_
                    simp only [List.set_cons_zero, List.set_cons_succ]
                    refine skip_at 24 63 rfl rfl (by kernel_rfl) (by kernel_rfl) (by kernel_rfl) (fun _ _ _ h => h) (by rfl) (by assumption) ?_
                    simp only [List.set_cons_zero, List.set_cons_succ]
                    refine skip_at 25 64 rfl rfl (by kernel_rfl) (by kernel_rfl) (by kernel_rfl) (fun _ _ _ h => h) (by rfl) (by assumption) ?_
                    simp only [List.set_cons_zero, List.set_cons_succ]
                    refine skip_at 26 65 rfl rfl (by kernel_rfl) (by kernel_rfl) (by kernel_rfl) (fun _ _ _ h => h) (by rfl) (by assumption) ?_
                    simp only [List.set_cons_zero, List.set_cons_succ]
                    refine skip_at 27 66 rfl rfl (by kernel_rfl) (by kernel_rfl) (by kernel_rfl) (fun _ _ _ h => h) (by rfl) (by assumption) ?_
                    simp only [List.set_cons_zero, List.set_cons_succ]
                    refine skip_at 28 67 rfl rfl (by kernel_rfl) (by kernel_rfl) (by kernel_rfl) (fun _ _ _ h => h) (by rfl) (by assumption) ?_
                    simp only [List.set_cons_zero, List.set_cons_succ]
                    refine skip_at 29 68 rfl rfl (by kernel_rfl) (by kernel_rfl) (by kernel_rfl) (fun _ _ _ h => h) (by rfl) (by assumption) ?_
                    simp only [List.set_cons_zero, List.set_cons_succ]
                    refine skip_at 30 69 rfl rfl (by kernel_rfl) (by kernel_rfl) (by kernel_rfl) (fun _ _ _ h => h) (by rfl) (by assumption) ?_
                    simp only [List.set_cons_zero, List.set_cons_succ]
                    refine skip_at 31 70 rfl rfl (by kernel_rfl) (by kernel_rfl) (by kernel_rfl) (fun _ _ _ h => h) (by rfl) (by assumption) ?_
                    simp only [List.set_cons_zero, List.set_cons_succ]
                    refine take_at 32 71 (v := ?_) rfl rfl (by kernel_rfl) (by kernel_rfl) (by kernel_rfl) (fun _ _ _ h => h) (by rfl) ?y32qc (by assumption) ?r32qc
                    case y32qc =>
                      intro w hSw
                      try dsimp only at hSw
                      go_simp
                      try with_reducible rfl
                    simp only [List.set_cons_zero, List.set_cons_succ]
                    refine take_at 33 72 (v := ?_) rfl rfl (by kernel_rfl) (by kernel_rfl) (by kernel_rfl) (fun _ _ _ h => h) (by rfl) ?y33qc (by assumption) ?r33qc
                    case y33qc =>
                      intro w hSw
                      try dsimp only at hSw
                      go_simp
                      try with_reducible rfl
                    simp only [List.set_cons_zero, List.set_cons_succ]
                    refine take_at 34 73 (v := ?_) rfl rfl (by kernel_rfl) (by kernel_rfl) (by kernel_rfl) (fun _ _ _ h => h) (by rfl) ?y34qc (by assumption) ?r34qc
                    case y34qc =>
                      intro w hSw
                      try dsimp only at hSw
                      go_simp
                      try with_reducible rfl
                    simp only [List.set_cons_zero, List.set_cons_succ]
                    refine take_at 35 38 (v := ?_) rfl rfl (by kernel_rfl) (by kernel_rfl) (by kernel_rfl) (fun _ _ _ h => h) (by rfl) ?y35qc (by assumption) ?r35qc
                    case y35qc =>
                      intro w hSw
                      try dsimp only at hSw
                      go_simp
                      try with_reducible rfl
                    simp only [List.set_cons_zero, List.set_cons_succ]
                    refine wpAnyH_done (by kernel_rfl) ?_ _
                    go_wp2_with fail
                    go_roundw
                    case rel => exact ⟨k + 1, by omega, by go_num, below_step hbo hHeld.1, Hgo⟩
                    case measure => simp [intOf]; omega

                  · have ee : (s.player.toList == sp.player.toList) = true := he
                    by_cases hwk : s.week ≤ sp.week
                    · have HT := Lib.hid (stH_fall Hsk.out Hsp.out Hz.out HH.out HC.out HW.out (by rw [cmpSt_wk he]; omega))
                      have ew : decide (s.week ≤ sp.week) = true := decide_eq_true hwk
                      clear hl he
                      go_wp2_with fail
                      refine (playerAt_yes lo' s.player _ ps _ HPo.out HH.out).mono ?_
                      rintro e w1 ⟨r, rfl, hb1⟩
                      obtain ⟨x0, x1, x2⟩ := HX.out w1 hb1
                      go_wp2_with fail
                      refine (keyR_calls s.club _ (by omega)).mono ?_
                      rintro e w' ⟨rfl, rfl⟩
                      rw [HK.out]
                      go_wp2_with fail
                      refine (weekR_calls s.week _).mono ?_
                      rintro e w' ⟨rfl, rfl⟩
                      rw [HW.out]
                      go_wp2_with fail
                      obtain ⟨y0, y1, y2⟩ := HPrev.out w1 sp Hsp.out hb1
                      refine wp_region_held_drew (S := fun w' => Below (wr.alloc (.cells #[.string s.player, .string s.club, .int .i64 s.week] 98)).heap.size (wr.alloc (.cells #[.string s.player, .string s.club, .int .i64 s.week] 98)) w' ∧ w'.cell? ⟨wr.heap.size, 0, none⟩ = some (.string s.player) ∧ w'.cell? ⟨wr.heap.size, 1, none⟩ = some (.string s.club) ∧ w'.cell? ⟨wr.heap.size, 2, none⟩ = some (.int .i64 s.week) ∧ w'.cell? ⟨g, off + (k - 1) * 3, none⟩ = some (.string sp.player) ∧ w'.cell? ⟨g, off + (k - 1) * 3 + 1, none⟩ = some (.string sp.club) ∧ w'.cell? ⟨g, off + (k - 1) * 3 + 2, none⟩ = some (.int .i64 sp.week)) (by kernel_rfl) ?_ (fun hHeld => ?_)
                      · (exact ⟨hb1.drew, (HX.out _ hb1.drew).1, (HX.out _ hb1.drew).2.1, (HX.out _ hb1.drew).2.2, HPrev.out _ sp Hsp.out hb1.drew⟩)
                      refine take_at 0 39 (v := ?_) rfl rfl (by kernel_rfl) (by kernel_rfl) (by kernel_rfl) (fun _ _ _ h => h) (by rfl) ?y0qd (by assumption) ?r0qd
                      case y0qd =>
                        intro w hSw
                        try dsimp only at hSw
                        go_simp
                        try with_reducible rfl
                      simp only [List.set_cons_zero, List.set_cons_succ]
                      refine take_at 1 40 (v := ?_) rfl rfl (by kernel_rfl) (by kernel_rfl) (by kernel_rfl) (fun _ _ _ h => h) (by rfl) ?y1qd (by assumption) ?r1qd
                      case y1qd =>
                        intro w hSw
                        try dsimp only at hSw
                        go_simp
                        try with_reducible rfl
                      simp only [List.set_cons_zero, List.set_cons_succ]
                      refine take_at 2 41 (v := ?_) rfl rfl (by kernel_rfl) (by kernel_rfl) (by kernel_rfl) (fun _ _ _ h => h) (by rfl) ?y2qd (by assumption) ?r2qd
                      case y2qd =>
                        intro w hSw
                        try dsimp only at hSw
                        go_simp
                        try with_reducible rfl
                      simp only [List.set_cons_zero, List.set_cons_succ]
                      refine take_at 3 42 (v := ?_) rfl rfl (by kernel_rfl) (by kernel_rfl) (by kernel_rfl) (fun _ _ _ h => h) (by rfl) ?y3qd (by assumption) ?r3qd
                      case y3qd =>
                        intro w hSw
                        try dsimp only at hSw
                        go_simp
                        try with_reducible rfl
                      simp only [List.set_cons_zero, List.set_cons_succ]
                      refine take_at 4 43 (v := ?_) rfl rfl (by kernel_rfl) (by kernel_rfl) (by kernel_rfl) (fun _ _ _ h => h) (by rfl) ?y4qd (by assumption) ?r4qd
                      case y4qd =>
                        intro w hSw
                        try dsimp only at hSw
                        go_simp
                        try with_reducible rfl
                      simp only [List.set_cons_zero, List.set_cons_succ]
                      refine take_at 5 44 (v := ?_) rfl rfl (by kernel_rfl) (by kernel_rfl) (by kernel_rfl) (fun _ _ _ h => h) (by rfl) ?y5qd (by assumption) ?r5qd
                      case y5qd =>
                        intro w hSw
                        try dsimp only at hSw
                        go_simp
                        try with_reducible rfl
                      simp only [List.set_cons_zero, List.set_cons_succ]
                      refine take_at 6 45 (v := ?_) rfl rfl (by kernel_rfl) (by kernel_rfl) (by kernel_rfl) (fun _ _ _ h => h) (by rfl) ?y6qd (by assumption) ?r6qd
                      case y6qd =>
                        intro w hSw
                        try dsimp only at hSw
                        go_simp
                        try with_reducible rfl
                      simp only [List.set_cons_zero, List.set_cons_succ]
                      refine take_at 7 46 (v := ?_) rfl rfl (by kernel_rfl) (by kernel_rfl) (by kernel_rfl) (fun _ _ _ h => h) (by rfl) ?y7qd (by assumption) ?r7qd
                      case y7qd =>
                        intro w hSw
                        try dsimp only at hSw
                        go_simp
                        try with_reducible rfl
                      simp only [List.set_cons_zero, List.set_cons_succ]
                      refine take_at 8 47 (v := ?_) rfl rfl (by kernel_rfl) (by kernel_rfl) (by kernel_rfl) (fun _ _ _ h => h) (by rfl) ?y8qd (by assumption) ?r8qd
                      case y8qd =>
                        intro w hSw
                        try dsimp only at hSw
                        go_simp
                        try with_reducible rfl
                      simp only [List.set_cons_zero, List.set_cons_succ]
                      refine take_at 9 48 (v := ?_) rfl rfl (by kernel_rfl) (by kernel_rfl) (by kernel_rfl) (fun _ _ _ h => h) (by rfl) ?y9qd (by assumption) ?r9qd
                      case y9qd =>
                        intro w hSw
                        try dsimp only at hSw
                        go_simp
                        try with_reducible rfl
                      simp only [List.set_cons_zero, List.set_cons_succ]
                      refine take_at 10 49 (v := ?_) rfl rfl (by kernel_rfl) (by kernel_rfl) (by kernel_rfl) (fun _ _ _ h => h) (by rfl) ?y10qd (by assumption) ?r10qd
                      case y10qd =>
                        intro w hSw
                        try dsimp only at hSw
                        go_simp
                        try with_reducible rfl
                      simp only [List.set_cons_zero, List.set_cons_succ]
                      refine take_at 11 50 (v := ?_) rfl rfl (by kernel_rfl) (by kernel_rfl) (by kernel_rfl) (fun _ _ _ h => h) (by rfl) ?y11qd (by assumption) ?r11qd
                      case y11qd =>
                        intro w hSw
                        try dsimp only at hSw
                        go_simp
                        try with_reducible rfl
                      simp only [List.set_cons_zero, List.set_cons_succ]
                      refine take_at 12 51 (v := ?_) rfl rfl (by kernel_rfl) (by kernel_rfl) (by kernel_rfl) (fun _ _ _ h => h) (by rfl) ?y12qd (by assumption) ?r12qd
                      case y12qd =>
                        intro w hSw
                        try dsimp only at hSw
                        go_simp
                        try with_reducible rfl
                      simp only [List.set_cons_zero, List.set_cons_succ]
                      refine take_at 13 52 (v := ?_) rfl rfl (by kernel_rfl) (by kernel_rfl) (by kernel_rfl) (fun _ _ _ h => h) (by rfl) ?y13qd (by assumption) ?r13qd
                      case y13qd =>
                        intro w hSw
                        try dsimp only at hSw
                        go_simp
                        try with_reducible rfl
                      simp only [List.set_cons_zero, List.set_cons_succ]
                      refine take_at 14 53 (v := ?_) rfl rfl (by kernel_rfl) (by kernel_rfl) (by kernel_rfl) (fun _ _ _ h => h) (by rfl) ?y14qd (by assumption) ?r14qd
                      case y14qd =>
                        intro w hSw
                        try dsimp only at hSw
                        go_simp
                        try with_reducible rfl
                      simp only [List.set_cons_zero, List.set_cons_succ]
                      refine take_at 15 54 (v := ?_) rfl rfl (by kernel_rfl) (by kernel_rfl) (by kernel_rfl) (fun _ _ _ h => h) (by rfl) ?y15qd (by assumption) ?r15qd
                      case y15qd =>
                        intro w hSw
                        try dsimp only at hSw
                        go_simp
                        try with_reducible rfl
                      simp only [List.set_cons_zero, List.set_cons_succ]
                      refine take_at 16 55 (v := ?_) rfl rfl (by kernel_rfl) (by kernel_rfl) (by kernel_rfl) (fun _ _ _ h => h) (by rfl) ?y16qd (by assumption) ?r16qd
                      case y16qd =>
                        intro w hSw
                        try dsimp only at hSw
                        go_simp
                        try with_reducible rfl
                      simp only [List.set_cons_zero, List.set_cons_succ]
                      refine take_at 17 56 (v := ?_) rfl rfl (by kernel_rfl) (by kernel_rfl) (by kernel_rfl) (fun _ _ _ h => h) (by rfl) ?y17qd (by assumption) ?r17qd
                      case y17qd =>
                        intro w hSw
                        try dsimp only at hSw
                        go_simp
                        try with_reducible rfl
                      simp only [List.set_cons_zero, List.set_cons_succ]
                      refine take_at 18 57 (v := ?_) rfl rfl (by kernel_rfl) (by kernel_rfl) (by kernel_rfl) (fun _ _ _ h => h) (by rfl) ?y18qd (by assumption) ?r18qd
                      case y18qd =>
                        intro w hSw
                        try dsimp only at hSw
                        go_simp
                        try with_reducible rfl
                      simp only [List.set_cons_zero, List.set_cons_succ]
                      refine take_at 19 58 (v := ?_) rfl rfl (by kernel_rfl) (by kernel_rfl) (by kernel_rfl) (fun _ _ _ h => h) (by rfl) ?y19qd (by assumption) ?r19qd
                      case y19qd =>
                        intro w hSw
                        try dsimp only at hSw
                        go_simp
                        try with_reducible rfl
                      simp only [List.set_cons_zero, List.set_cons_succ]
                      refine take_at 20 59 (v := ?_) rfl rfl (by kernel_rfl) (by kernel_rfl) (by kernel_rfl) (fun _ _ _ h => h) (by rfl) ?y20qd (by assumption) ?r20qd
                      case y20qd =>
                        intro w hSw
                        try dsimp only at hSw
                        go_simp
                        try with_reducible rfl
                      simp only [List.set_cons_zero, List.set_cons_succ]
                      refine take_at 21 60 (v := ?_) rfl rfl (by kernel_rfl) (by kernel_rfl) (by kernel_rfl) (fun _ _ _ h => h) (by rfl) ?y21qd (by assumption) ?r21qd
                      case y21qd =>
                        intro w hSw
                        try dsimp only at hSw
                        go_simp
                        try with_reducible rfl
                      simp only [List.set_cons_zero, List.set_cons_succ]
                      refine take_at 22 61 (v := ?_) rfl rfl (by kernel_rfl) (by kernel_rfl) (by kernel_rfl) (fun _ _ _ h => h) (by rfl) ?y22qd (by assumption) ?r22qd
                      case y22qd =>
                        intro w hSw
                        try dsimp only at hSw
                        go_simp
                        try with_reducible rfl
                      simp only [List.set_cons_zero, List.set_cons_succ]
                      refine take_at 23 62 (v := ?_) rfl rfl (by kernel_rfl) (by kernel_rfl) (by kernel_rfl) (fun _ _ _ h => h) (by rfl) ?y23qd (by assumption) ?r23qd
                      case y23qd =>
                        intro w hSw
                        try dsimp only at hSw
                        go_simp
                        try with_reducible rfl
                      simp only [List.set_cons_zero, List.set_cons_succ]
                      refine take_at 24 63 (v := ?_) rfl rfl (by kernel_rfl) (by kernel_rfl) (by kernel_rfl) (fun _ _ _ h => h) (by rfl) ?y24qd (by assumption) ?r24qd
                      case y24qd =>
                        intro w hSw
                        try dsimp only at hSw
                        go_simp
                        try with_reducible rfl
                      simp only [List.set_cons_zero, List.set_cons_succ]
                      refine take_at 25 64 (v := ?_) rfl rfl (by kernel_rfl) (by kernel_rfl) (by kernel_rfl) (fun _ _ _ h => h) (by rfl) ?y25qd (by assumption) ?r25qd
                      case y25qd =>
                        intro w hSw
                        try dsimp only at hSw
                        go_simp
                        try with_reducible rfl
                      simp only [List.set_cons_zero, List.set_cons_succ]
                      refine take_at 26 65 (v := ?_) rfl rfl (by kernel_rfl) (by kernel_rfl) (by kernel_rfl) (fun _ _ _ h => h) (by rfl) ?y26qd (by assumption) ?r26qd
                      case y26qd =>
                        intro w hSw
                        try dsimp only at hSw
                        go_simp
                        try with_reducible rfl
                      simp only [List.set_cons_zero, List.set_cons_succ]
                      refine take_at 27 66 (v := ?_) rfl rfl (by kernel_rfl) (by kernel_rfl) (by kernel_rfl) (fun _ _ _ h => h) (by rfl) ?y27qd (by assumption) ?r27qd
                      case y27qd =>
                        intro w hSw
                        try dsimp only at hSw
                        go_simp
                        try with_reducible rfl
                      simp only [List.set_cons_zero, List.set_cons_succ]
                      refine take_at 28 67 (v := ?_) rfl rfl (by kernel_rfl) (by kernel_rfl) (by kernel_rfl) (fun _ _ _ h => h) (by rfl) ?y28qd (by assumption) ?r28qd
                      case y28qd =>
                        intro w hSw
                        try dsimp only at hSw
                        go_simp
                        try with_reducible rfl
                      simp only [List.set_cons_zero, List.set_cons_succ]
                      refine take_at 29 68 (v := ?_) rfl rfl (by kernel_rfl) (by kernel_rfl) (by kernel_rfl) (fun _ _ _ h => h) (by rfl) ?y29qd (by assumption) ?r29qd
                      case y29qd =>
                        intro w hSw
                        try dsimp only at hSw
                        go_simp
                        try with_reducible rfl
                      simp only [List.set_cons_zero, List.set_cons_succ]
                      refine take_at 30 69 (v := ?_) rfl rfl (by kernel_rfl) (by kernel_rfl) (by kernel_rfl) (fun _ _ _ h => h) (by rfl) ?y30qd (by assumption) ?r30qd
                      case y30qd =>
                        intro w hSw
                        try dsimp only at hSw
                        go_simp
                        try with_reducible rfl
                      simp only [List.set_cons_zero, List.set_cons_succ]
                      refine take_at 31 70 (v := ?_) rfl rfl (by kernel_rfl) (by kernel_rfl) (by kernel_rfl) (fun _ _ _ h => h) (by rfl) ?y31qd (by assumption) ?r31qd
                      case y31qd =>
                        intro w hSw
                        try dsimp only at hSw
                        go_simp
                        try with_reducible rfl
                      simp only [List.set_cons_zero, List.set_cons_succ]
                      refine take_at 32 71 (v := ?_) rfl rfl (by kernel_rfl) (by kernel_rfl) (by kernel_rfl) (fun _ _ _ h => h) (by rfl) ?y32qd (by assumption) ?r32qd
                      case y32qd =>
                        intro w hSw
                        try dsimp only at hSw
                        go_simp
                        try with_reducible rfl
                      simp only [List.set_cons_zero, List.set_cons_succ]
                      refine take_at 33 72 (v := ?_) rfl rfl (by kernel_rfl) (by kernel_rfl) (by kernel_rfl) (fun _ _ _ h => h) (by rfl) ?y33qd (by assumption) ?r33qd
                      case y33qd =>
                        intro w hSw
                        try dsimp only at hSw
                        go_simp
                        try with_reducible rfl
                      simp only [List.set_cons_zero, List.set_cons_succ]
                      refine take_at 34 73 (v := ?_) rfl rfl (by kernel_rfl) (by kernel_rfl) (by kernel_rfl) (fun _ _ _ h => h) (by rfl) ?y34qd (by assumption) ?r34qd
                      case y34qd =>
                        intro w hSw
                        try dsimp only at hSw
                        go_simp
                        try with_reducible rfl
                      simp only [List.set_cons_zero, List.set_cons_succ]
                      refine take_at 35 38 (v := ?_) rfl rfl (by kernel_rfl) (by kernel_rfl) (by kernel_rfl) (fun _ _ _ h => h) (by rfl) ?y35qd (by assumption) ?r35qd
                      case y35qd =>
                        intro w hSw
                        try dsimp only at hSw
                        go_simp
                        try with_reducible rfl
                      simp only [List.set_cons_zero, List.set_cons_succ]
                      refine wpAnyH_done (by kernel_rfl) ?_ _
                      go_wp2_with fail
                      go_ret
                      exact ⟨ret_int (by rw [Hhit.out (by rw [HT.out]; decide), HT.out]), below_step hbo hHeld.1⟩

                    · have Hgo := Lib.hid (Hnext.out (stH_ok Hsk.out HH.out HC.out HW.out (.inr ⟨sp, Hsp.out, by rw [cmpSt_wk he]; omega⟩)))
                      have ew : decide (s.week ≤ sp.week) = false := decide_eq_false hwk
                      clear hl he
                      go_wp2_with fail
                      refine (playerAt_yes lo' s.player _ ps _ HPo.out HH.out).mono ?_
                      rintro e w1 ⟨r, rfl, hb1⟩
                      obtain ⟨x0, x1, x2⟩ := HX.out w1 hb1
                      go_wp2_with fail
                      refine (keyR_calls s.club _ (by omega)).mono ?_
                      rintro e w' ⟨rfl, rfl⟩
                      rw [HK.out]
                      go_wp2_with fail
                      refine (weekR_calls s.week _).mono ?_
                      rintro e w' ⟨rfl, rfl⟩
                      rw [HW.out]
                      go_wp2_with fail
                      obtain ⟨y0, y1, y2⟩ := HPrev.out w1 sp Hsp.out hb1
                      refine wp_region_held_drew (S := fun w' => Below (wr.alloc (.cells #[.string s.player, .string s.club, .int .i64 s.week] 98)).heap.size (wr.alloc (.cells #[.string s.player, .string s.club, .int .i64 s.week] 98)) w' ∧ w'.cell? ⟨wr.heap.size, 0, none⟩ = some (.string s.player) ∧ w'.cell? ⟨wr.heap.size, 1, none⟩ = some (.string s.club) ∧ w'.cell? ⟨wr.heap.size, 2, none⟩ = some (.int .i64 s.week) ∧ w'.cell? ⟨g, off + (k - 1) * 3, none⟩ = some (.string sp.player) ∧ w'.cell? ⟨g, off + (k - 1) * 3 + 1, none⟩ = some (.string sp.club) ∧ w'.cell? ⟨g, off + (k - 1) * 3 + 2, none⟩ = some (.int .i64 sp.week)) (by kernel_rfl) ?_ (fun hHeld => ?_)
                      · (exact ⟨hb1.drew, (HX.out _ hb1.drew).1, (HX.out _ hb1.drew).2.1, (HX.out _ hb1.drew).2.2, HPrev.out _ sp Hsp.out hb1.drew⟩)
                      refine take_at 0 39 (v := ?_) rfl rfl (by kernel_rfl) (by kernel_rfl) (by kernel_rfl) (fun _ _ _ h => h) (by rfl) ?y0qe (by assumption) ?r0qe
                      case y0qe =>
                        intro w hSw
                        try dsimp only at hSw
                        go_simp
                        try with_reducible rfl
                      simp only [List.set_cons_zero, List.set_cons_succ]
                      refine take_at 1 40 (v := ?_) rfl rfl (by kernel_rfl) (by kernel_rfl) (by kernel_rfl) (fun _ _ _ h => h) (by rfl) ?y1qe (by assumption) ?r1qe
                      case y1qe =>
                        intro w hSw
                        try dsimp only at hSw
                        go_simp
                        try with_reducible rfl
                      simp only [List.set_cons_zero, List.set_cons_succ]
                      refine take_at 2 41 (v := ?_) rfl rfl (by kernel_rfl) (by kernel_rfl) (by kernel_rfl) (fun _ _ _ h => h) (by rfl) ?y2qe (by assumption) ?r2qe
                      case y2qe =>
                        intro w hSw
                        try dsimp only at hSw
                        go_simp
                        try with_reducible rfl
                      simp only [List.set_cons_zero, List.set_cons_succ]
                      refine take_at 3 42 (v := ?_) rfl rfl (by kernel_rfl) (by kernel_rfl) (by kernel_rfl) (fun _ _ _ h => h) (by rfl) ?y3qe (by assumption) ?r3qe
                      case y3qe =>
                        intro w hSw
                        try dsimp only at hSw
                        go_simp
                        try with_reducible rfl
                      simp only [List.set_cons_zero, List.set_cons_succ]
                      refine take_at 4 43 (v := ?_) rfl rfl (by kernel_rfl) (by kernel_rfl) (by kernel_rfl) (fun _ _ _ h => h) (by rfl) ?y4qe (by assumption) ?r4qe
                      case y4qe =>
                        intro w hSw
                        try dsimp only at hSw
                        go_simp
                        try with_reducible rfl
                      simp only [List.set_cons_zero, List.set_cons_succ]
                      refine take_at 5 44 (v := ?_) rfl rfl (by kernel_rfl) (by kernel_rfl) (by kernel_rfl) (fun _ _ _ h => h) (by rfl) ?y5qe (by assumption) ?r5qe
                      case y5qe =>
                        intro w hSw
                        try dsimp only at hSw
                        go_simp
                        try with_reducible rfl
                      simp only [List.set_cons_zero, List.set_cons_succ]
                      refine take_at 6 45 (v := ?_) rfl rfl (by kernel_rfl) (by kernel_rfl) (by kernel_rfl) (fun _ _ _ h => h) (by rfl) ?y6qe (by assumption) ?r6qe
                      case y6qe =>
                        intro w hSw
                        try dsimp only at hSw
                        go_simp
                        try with_reducible rfl
                      simp only [List.set_cons_zero, List.set_cons_succ]
                      refine take_at 7 46 (v := ?_) rfl rfl (by kernel_rfl) (by kernel_rfl) (by kernel_rfl) (fun _ _ _ h => h) (by rfl) ?y7qe (by assumption) ?r7qe
                      case y7qe =>
                        intro w hSw
                        try dsimp only at hSw
                        go_simp
                        try with_reducible rfl
                      simp only [List.set_cons_zero, List.set_cons_succ]
                      refine take_at 8 47 (v := ?_) rfl rfl (by kernel_rfl) (by kernel_rfl) (by kernel_rfl) (fun _ _ _ h => h) (by rfl) ?y8qe (by assumption) ?r8qe
                      case y8qe =>
                        intro w hSw
                        try dsimp only at hSw
                        go_simp
                        try with_reducible rfl
                      simp only [List.set_cons_zero, List.set_cons_succ]
                      refine take_at 9 48 (v := ?_) rfl rfl (by kernel_rfl) (by kernel_rfl) (by kernel_rfl) (fun _ _ _ h => h) (by rfl) ?y9qe (by assumption) ?r9qe
                      case y9qe =>
                        intro w hSw
                        try dsimp only at hSw
                        go_simp
                        try with_reducible rfl
                      simp only [List.set_cons_zero, List.set_cons_succ]
                      refine take_at 10 49 (v := ?_) rfl rfl (by kernel_rfl) (by kernel_rfl) (by kernel_rfl) (fun _ _ _ h => h) (by rfl) ?y10qe (by assumption) ?r10qe
                      case y10qe =>
                        intro w hSw
                        try dsimp only at hSw
                        go_simp
                        try with_reducible rfl
                      simp only [List.set_cons_zero, List.set_cons_succ]
                      refine take_at 11 50 (v := ?_) rfl rfl (by kernel_rfl) (by kernel_rfl) (by kernel_rfl) (fun _ _ _ h => h) (by rfl) ?y11qe (by assumption) ?r11qe
                      case y11qe =>
                        intro w hSw
                        try dsimp only at hSw
                        go_simp
                        try with_reducible rfl
                      simp only [List.set_cons_zero, List.set_cons_succ]
                      refine take_at 12 51 (v := ?_) rfl rfl (by kernel_rfl) (by kernel_rfl) (by kernel_rfl) (fun _ _ _ h => h) (by rfl) ?y12qe (by assumption) ?r12qe
                      case y12qe =>
                        intro w hSw
                        try dsimp only at hSw
                        go_simp
                        try with_reducible rfl
                      simp only [List.set_cons_zero, List.set_cons_succ]
                      refine take_at 13 52 (v := ?_) rfl rfl (by kernel_rfl) (by kernel_rfl) (by kernel_rfl) (fun _ _ _ h => h) (by rfl) ?y13qe (by assumption) ?r13qe
                      case y13qe =>
                        intro w hSw
                        try dsimp only at hSw
                        go_simp
                        try with_reducible rfl
                      simp only [List.set_cons_zero, List.set_cons_succ]
                      refine take_at 14 53 (v := ?_) rfl rfl (by kernel_rfl) (by kernel_rfl) (by kernel_rfl) (fun _ _ _ h => h) (by rfl) ?y14qe (by assumption) ?r14qe
                      case y14qe =>
                        intro w hSw
                        try dsimp only at hSw
                        go_simp
                        try with_reducible rfl
                      simp only [List.set_cons_zero, List.set_cons_succ]
                      refine take_at 15 54 (v := ?_) rfl rfl (by kernel_rfl) (by kernel_rfl) (by kernel_rfl) (fun _ _ _ h => h) (by rfl) ?y15qe (by assumption) ?r15qe
                      case y15qe =>
                        intro w hSw
                        try dsimp only at hSw
                        go_simp
                        try with_reducible rfl
                      simp only [List.set_cons_zero, List.set_cons_succ]
                      refine take_at 16 55 (v := ?_) rfl rfl (by kernel_rfl) (by kernel_rfl) (by kernel_rfl) (fun _ _ _ h => h) (by rfl) ?y16qe (by assumption) ?r16qe
                      case y16qe =>
                        intro w hSw
                        try dsimp only at hSw
                        go_simp
                        try with_reducible rfl
                      simp only [List.set_cons_zero, List.set_cons_succ]
                      refine take_at 17 56 (v := ?_) rfl rfl (by kernel_rfl) (by kernel_rfl) (by kernel_rfl) (fun _ _ _ h => h) (by rfl) ?y17qe (by assumption) ?r17qe
                      case y17qe =>
                        intro w hSw
                        try dsimp only at hSw
                        go_simp
                        try with_reducible rfl
                      simp only [List.set_cons_zero, List.set_cons_succ]
                      refine take_at 18 57 (v := ?_) rfl rfl (by kernel_rfl) (by kernel_rfl) (by kernel_rfl) (fun _ _ _ h => h) (by rfl) ?y18qe (by assumption) ?r18qe
                      case y18qe =>
                        intro w hSw
                        try dsimp only at hSw
                        go_simp
                        try with_reducible rfl
                      simp only [List.set_cons_zero, List.set_cons_succ]
                      refine take_at 19 58 (v := ?_) rfl rfl (by kernel_rfl) (by kernel_rfl) (by kernel_rfl) (fun _ _ _ h => h) (by rfl) ?y19qe (by assumption) ?r19qe
                      case y19qe =>
                        intro w hSw
                        try dsimp only at hSw
                        go_simp
                        try with_reducible rfl
                      simp only [List.set_cons_zero, List.set_cons_succ]
                      refine take_at 20 59 (v := ?_) rfl rfl (by kernel_rfl) (by kernel_rfl) (by kernel_rfl) (fun _ _ _ h => h) (by rfl) ?y20qe (by assumption) ?r20qe
                      case y20qe =>
                        intro w hSw
                        try dsimp only at hSw
                        go_simp
                        try with_reducible rfl
                      simp only [List.set_cons_zero, List.set_cons_succ]
                      refine take_at 21 60 (v := ?_) rfl rfl (by kernel_rfl) (by kernel_rfl) (by kernel_rfl) (fun _ _ _ h => h) (by rfl) ?y21qe (by assumption) ?r21qe
                      case y21qe =>
                        intro w hSw
                        try dsimp only at hSw
                        go_simp
                        try with_reducible rfl
                      simp only [List.set_cons_zero, List.set_cons_succ]
                      refine take_at 22 61 (v := ?_) rfl rfl (by kernel_rfl) (by kernel_rfl) (by kernel_rfl) (fun _ _ _ h => h) (by rfl) ?y22qe (by assumption) ?r22qe
                      case y22qe =>
                        intro w hSw
                        try dsimp only at hSw
                        go_simp
                        try with_reducible rfl
                      simp only [List.set_cons_zero, List.set_cons_succ]
                      refine take_at 23 62 (v := ?_) rfl rfl (by kernel_rfl) (by kernel_rfl) (by kernel_rfl) (fun _ _ _ h => h) (by rfl) ?y23qe (by assumption) ?r23qe
                      case y23qe =>
                        intro w hSw
                        try dsimp only at hSw
                        go_simp
                        try with_reducible rfl
                      simp only [List.set_cons_zero, List.set_cons_succ]
                      refine take_at 24 63 (v := ?_) rfl rfl (by kernel_rfl) (by kernel_rfl) (by kernel_rfl) (fun _ _ _ h => h) (by rfl) ?y24qe (by assumption) ?r24qe
                      case y24qe =>
                        intro w hSw
                        try dsimp only at hSw
                        go_simp
                        try with_reducible rfl
                      simp only [List.set_cons_zero, List.set_cons_succ]
                      refine take_at 25 64 (v := ?_) rfl rfl (by kernel_rfl) (by kernel_rfl) (by kernel_rfl) (fun _ _ _ h => h) (by rfl) ?y25qe (by assumption) ?r25qe
                      case y25qe =>
                        intro w hSw
                        try dsimp only at hSw
                        go_simp
                        try with_reducible rfl
                      simp only [List.set_cons_zero, List.set_cons_succ]
                      refine take_at 26 65 (v := ?_) rfl rfl (by kernel_rfl) (by kernel_rfl) (by kernel_rfl) (fun _ _ _ h => h) (by rfl) ?y26qe (by assumption) ?r26qe
                      case y26qe =>
                        intro w hSw
                        try dsimp only at hSw
                        go_simp
                        try with_reducible rfl
                      simp only [List.set_cons_zero, List.set_cons_succ]
                      refine take_at 27 66 (v := ?_) rfl rfl (by kernel_rfl) (by kernel_rfl) (by kernel_rfl) (fun _ _ _ h => h) (by rfl) ?y27qe (by assumption) ?r27qe
                      case y27qe =>
                        intro w hSw
                        try dsimp only at hSw
                        go_simp
                        try with_reducible rfl
                      simp only [List.set_cons_zero, List.set_cons_succ]
                      refine take_at 28 67 (v := ?_) rfl rfl (by kernel_rfl) (by kernel_rfl) (by kernel_rfl) (fun _ _ _ h => h) (by rfl) ?y28qe (by assumption) ?r28qe
                      case y28qe =>
                        intro w hSw
                        try dsimp only at hSw
                        go_simp
                        try with_reducible rfl
                      simp only [List.set_cons_zero, List.set_cons_succ]
                      refine take_at 29 68 (v := ?_) rfl rfl (by kernel_rfl) (by kernel_rfl) (by kernel_rfl) (fun _ _ _ h => h) (by rfl) ?y29qe (by assumption) ?r29qe
                      case y29qe =>
                        intro w hSw
                        try dsimp only at hSw
                        go_simp
                        try with_reducible rfl
                      simp only [List.set_cons_zero, List.set_cons_succ]
                      refine take_at 30 69 (v := ?_) rfl rfl (by kernel_rfl) (by kernel_rfl) (by kernel_rfl) (fun _ _ _ h => h) (by rfl) ?y30qe (by assumption) ?r30qe
                      case y30qe =>
                        intro w hSw
                        try dsimp only at hSw
                        go_simp
                        try with_reducible rfl
                      simp only [List.set_cons_zero, List.set_cons_succ]
                      refine take_at 31 70 (v := ?_) rfl rfl (by kernel_rfl) (by kernel_rfl) (by kernel_rfl) (fun _ _ _ h => h) (by rfl) ?y31qe (by assumption) ?r31qe
                      case y31qe =>
                        intro w hSw
                        try dsimp only at hSw
                        go_simp
                        try with_reducible rfl
                      simp only [List.set_cons_zero, List.set_cons_succ]
                      refine take_at 32 71 (v := ?_) rfl rfl (by kernel_rfl) (by kernel_rfl) (by kernel_rfl) (fun _ _ _ h => h) (by rfl) ?y32qe (by assumption) ?r32qe
                      case y32qe =>
                        intro w hSw
                        try dsimp only at hSw
                        go_simp
                        try with_reducible rfl
                      simp only [List.set_cons_zero, List.set_cons_succ]
                      refine take_at 33 72 (v := ?_) rfl rfl (by kernel_rfl) (by kernel_rfl) (by kernel_rfl) (fun _ _ _ h => h) (by rfl) ?y33qe (by assumption) ?r33qe
                      case y33qe =>
                        intro w hSw
                        try dsimp only at hSw
                        go_simp
                        try with_reducible rfl
                      simp only [List.set_cons_zero, List.set_cons_succ]
                      refine take_at 34 73 (v := ?_) rfl rfl (by kernel_rfl) (by kernel_rfl) (by kernel_rfl) (fun _ _ _ h => h) (by rfl) ?y34qe (by assumption) ?r34qe
                      case y34qe =>
                        intro w hSw
                        try dsimp only at hSw
                        go_simp
                        try with_reducible rfl
                      simp only [List.set_cons_zero, List.set_cons_succ]
                      refine take_at 35 38 (v := ?_) rfl rfl (by kernel_rfl) (by kernel_rfl) (by kernel_rfl) (fun _ _ _ h => h) (by rfl) ?y35qe (by assumption) ?r35qe
                      case y35qe =>
                        intro w hSw
                        try dsimp only at hSw
                        go_simp
                        try with_reducible rfl
                      simp only [List.set_cons_zero, List.set_cons_succ]
                      refine wpAnyH_done (by kernel_rfl) ?_ _
                      go_wp2_with fail
                      go_roundw
                      case rel => exact ⟨k + 1, by omega, by go_num, below_step hbo hHeld.1, Hgo⟩
                      case measure => simp [intOf]; omega

                · have el : Op.bytesLess s.player.toList sp.player.toList = true := hl
                  have HT := Lib.hid (stH_fall Hsk.out Hsp.out Hz.out HH.out HC.out HW.out (cmpSt_lt hl))
                  clear hl
                  go_wp2_with fail
                  refine (playerAt_yes lo' s.player _ ps _ HPo.out HH.out).mono ?_
                  rintro e w1 ⟨r, rfl, hb1⟩
                  obtain ⟨x0, x1, x2⟩ := HX.out w1 hb1
                  go_wp2_with fail
                  refine (keyR_calls s.club _ (by omega)).mono ?_
                  rintro e w' ⟨rfl, rfl⟩
                  rw [HK.out]
                  go_wp2_with fail
                  refine (weekR_calls s.week _).mono ?_
                  rintro e w' ⟨rfl, rfl⟩
                  rw [HW.out]
                  go_wp2_with fail
                  obtain ⟨y0, y1, y2⟩ := HPrev.out w1 sp Hsp.out hb1
                  refine wp_region_held_drew (S := fun w' => Below (wr.alloc (.cells #[.string s.player, .string s.club, .int .i64 s.week] 98)).heap.size (wr.alloc (.cells #[.string s.player, .string s.club, .int .i64 s.week] 98)) w' ∧ w'.cell? ⟨wr.heap.size, 0, none⟩ = some (.string s.player) ∧ w'.cell? ⟨wr.heap.size, 1, none⟩ = some (.string s.club) ∧ w'.cell? ⟨wr.heap.size, 2, none⟩ = some (.int .i64 s.week) ∧ w'.cell? ⟨g, off + (k - 1) * 3, none⟩ = some (.string sp.player) ∧ w'.cell? ⟨g, off + (k - 1) * 3 + 1, none⟩ = some (.string sp.club) ∧ w'.cell? ⟨g, off + (k - 1) * 3 + 2, none⟩ = some (.int .i64 sp.week)) (by kernel_rfl) ?_ (fun hHeld => ?_)
                  · (exact ⟨hb1.drew, (HX.out _ hb1.drew).1, (HX.out _ hb1.drew).2.1, (HX.out _ hb1.drew).2.2, HPrev.out _ sp Hsp.out hb1.drew⟩)
                  refine take_at 0 39 (v := ?_) rfl rfl (by kernel_rfl) (by kernel_rfl) (by kernel_rfl) (fun _ _ _ h => h) (by rfl) ?y0qb (by assumption) ?r0qb
                  case y0qb =>
                    intro w hSw
                    try dsimp only at hSw
                    go_simp
                    try with_reducible rfl
                  simp only [List.set_cons_zero, List.set_cons_succ]
                  refine take_at 1 40 (v := ?_) rfl rfl (by kernel_rfl) (by kernel_rfl) (by kernel_rfl) (fun _ _ _ h => h) (by rfl) ?y1qb (by assumption) ?r1qb
                  case y1qb =>
                    intro w hSw
                    try dsimp only at hSw
                    go_simp
                    try with_reducible rfl
                  simp only [List.set_cons_zero, List.set_cons_succ]
                  refine take_at 2 41 (v := ?_) rfl rfl (by kernel_rfl) (by kernel_rfl) (by kernel_rfl) (fun _ _ _ h => h) (by rfl) ?y2qb (by assumption) ?r2qb
                  case y2qb =>
                    intro w hSw
                    try dsimp only at hSw
                    go_simp
                    try with_reducible rfl
                  simp only [List.set_cons_zero, List.set_cons_succ]
                  refine take_at 3 42 (v := ?_) rfl rfl (by kernel_rfl) (by kernel_rfl) (by kernel_rfl) (fun _ _ _ h => h) (by rfl) ?y3qb (by assumption) ?r3qb
                  case y3qb =>
                    intro w hSw
                    try dsimp only at hSw
                    go_simp
                    try with_reducible rfl
                  simp only [List.set_cons_zero, List.set_cons_succ]
                  refine take_at 4 43 (v := ?_) rfl rfl (by kernel_rfl) (by kernel_rfl) (by kernel_rfl) (fun _ _ _ h => h) (by rfl) ?y4qb (by assumption) ?r4qb
                  case y4qb =>
                    intro w hSw
                    try dsimp only at hSw
                    go_simp
                    try with_reducible rfl
                  simp only [List.set_cons_zero, List.set_cons_succ]
                  refine take_at 5 44 (v := ?_) rfl rfl (by kernel_rfl) (by kernel_rfl) (by kernel_rfl) (fun _ _ _ h => h) (by rfl) ?y5qb (by assumption) ?r5qb
                  case y5qb =>
                    intro w hSw
                    try dsimp only at hSw
                    go_simp
                    try with_reducible rfl
                  simp only [List.set_cons_zero, List.set_cons_succ]
                  refine take_at 6 45 (v := ?_) rfl rfl (by kernel_rfl) (by kernel_rfl) (by kernel_rfl) (fun _ _ _ h => h) (by rfl) ?y6qb (by assumption) ?r6qb
                  case y6qb =>
                    intro w hSw
                    try dsimp only at hSw
                    go_simp
                    try with_reducible rfl
                  simp only [List.set_cons_zero, List.set_cons_succ]
                  refine take_at 7 46 (v := ?_) rfl rfl (by kernel_rfl) (by kernel_rfl) (by kernel_rfl) (fun _ _ _ h => h) (by rfl) ?y7qb (by assumption) ?r7qb
                  case y7qb =>
                    intro w hSw
                    try dsimp only at hSw
                    go_simp
                    try with_reducible rfl
                  simp only [List.set_cons_zero, List.set_cons_succ]
                  refine take_at 8 47 (v := ?_) rfl rfl (by kernel_rfl) (by kernel_rfl) (by kernel_rfl) (fun _ _ _ h => h) (by rfl) ?y8qb (by assumption) ?r8qb
                  case y8qb =>
                    intro w hSw
                    try dsimp only at hSw
                    go_simp
                    try with_reducible rfl
                  simp only [List.set_cons_zero, List.set_cons_succ]
                  refine take_at 9 48 (v := ?_) rfl rfl (by kernel_rfl) (by kernel_rfl) (by kernel_rfl) (fun _ _ _ h => h) (by rfl) ?y9qb (by assumption) ?r9qb
                  case y9qb =>
                    intro w hSw
                    try dsimp only at hSw
                    go_simp
                    try with_reducible rfl
                  simp only [List.set_cons_zero, List.set_cons_succ]
                  refine take_at 10 49 (v := ?_) rfl rfl (by kernel_rfl) (by kernel_rfl) (by kernel_rfl) (fun _ _ _ h => h) (by rfl) ?y10qb (by assumption) ?r10qb
                  case y10qb =>
                    intro w hSw
                    try dsimp only at hSw
                    go_simp
                    try with_reducible rfl
                  simp only [List.set_cons_zero, List.set_cons_succ]
                  refine take_at 11 50 (v := ?_) rfl rfl (by kernel_rfl) (by kernel_rfl) (by kernel_rfl) (fun _ _ _ h => h) (by rfl) ?y11qb (by assumption) ?r11qb
                  case y11qb =>
                    intro w hSw
                    try dsimp only at hSw
                    go_simp
                    try with_reducible rfl
                  simp only [List.set_cons_zero, List.set_cons_succ]
                  refine take_at 12 51 (v := ?_) rfl rfl (by kernel_rfl) (by kernel_rfl) (by kernel_rfl) (fun _ _ _ h => h) (by rfl) ?y12qb (by assumption) ?r12qb
                  case y12qb =>
                    intro w hSw
                    try dsimp only at hSw
                    go_simp
                    try with_reducible rfl
                  simp only [List.set_cons_zero, List.set_cons_succ]
                  refine skip_at 13 52 rfl rfl (by kernel_rfl) (by kernel_rfl) (by kernel_rfl) (fun _ _ _ h => h) (by rfl) (by assumption) ?_
                  simp only [List.set_cons_zero, List.set_cons_succ]
                  refine skip_at 14 53 rfl rfl (by kernel_rfl) (by kernel_rfl) (by kernel_rfl) (fun _ _ _ h => h) (by rfl) (by assumption) ?_
                  simp only [List.set_cons_zero, List.set_cons_succ]
                  refine skip_at 15 54 rfl rfl (by kernel_rfl) (by kernel_rfl) (by kernel_rfl) (fun _ _ _ h => h) (by rfl) (by assumption) ?_
                  simp only [List.set_cons_zero, List.set_cons_succ]
                  refine skip_at 16 55 rfl rfl (by kernel_rfl) (by kernel_rfl) (by kernel_rfl) (fun _ _ _ h => h) (by rfl) (by assumption) ?_
                  simp only [List.set_cons_zero, List.set_cons_succ]
                  refine skip_at 17 56 rfl rfl (by kernel_rfl) (by kernel_rfl) (by kernel_rfl) (fun _ _ _ h => h) (by rfl) (by assumption) ?_
                  simp only [List.set_cons_zero, List.set_cons_succ]
                  refine skip_at 18 57 rfl rfl (by kernel_rfl) (by kernel_rfl) (by kernel_rfl) (fun _ _ _ h => h) (by rfl) (by assumption) ?_
                  simp only [List.set_cons_zero, List.set_cons_succ]
                  refine skip_at 19 58 rfl rfl (by kernel_rfl) (by kernel_rfl) (by kernel_rfl) (fun _ _ _ h => h) (by rfl) (by assumption) ?_
                  simp only [List.set_cons_zero, List.set_cons_succ]
                  refine skip_at 20 59 rfl rfl (by kernel_rfl) (by kernel_rfl) (by kernel_rfl) (fun _ _ _ h => h) (by rfl) (by assumption) ?_
                  simp only [List.set_cons_zero, List.set_cons_succ]
                  refine skip_at 21 60 rfl rfl (by kernel_rfl) (by kernel_rfl) (by kernel_rfl) (fun _ _ _ h => h) (by rfl) (by assumption) ?_
                  simp only [List.set_cons_zero, List.set_cons_succ]
                  refine skip_at 22 61 rfl rfl (by kernel_rfl) (by kernel_rfl) (by kernel_rfl) (fun _ _ _ h => h) (by rfl) (by assumption) ?_
                  simp only [List.set_cons_zero, List.set_cons_succ]
                  refine skip_at 23 62 rfl rfl (by kernel_rfl) (by kernel_rfl) (by kernel_rfl) (fun _ _ _ h => h) (by rfl) (by assumption) ?_
                  simp only [List.set_cons_zero, List.set_cons_succ]
                  refine skip_at 24 63 rfl rfl (by kernel_rfl) (by kernel_rfl) (by kernel_rfl) (fun _ _ _ h => h) (by rfl) (by assumption) ?_
                  simp only [List.set_cons_zero, List.set_cons_succ]
                  refine skip_at 25 64 rfl rfl (by kernel_rfl) (by kernel_rfl) (by kernel_rfl) (fun _ _ _ h => h) (by rfl) (by assumption) ?_
                  simp only [List.set_cons_zero, List.set_cons_succ]
                  refine skip_at 26 65 rfl rfl (by kernel_rfl) (by kernel_rfl) (by kernel_rfl) (fun _ _ _ h => h) (by rfl) (by assumption) ?_
                  simp only [List.set_cons_zero, List.set_cons_succ]
                  refine skip_at 27 66 rfl rfl (by kernel_rfl) (by kernel_rfl) (by kernel_rfl) (fun _ _ _ h => h) (by rfl) (by assumption) ?_
                  simp only [List.set_cons_zero, List.set_cons_succ]
                  refine skip_at 28 67 rfl rfl (by kernel_rfl) (by kernel_rfl) (by kernel_rfl) (fun _ _ _ h => h) (by rfl) (by assumption) ?_
                  simp only [List.set_cons_zero, List.set_cons_succ]
                  refine skip_at 29 68 rfl rfl (by kernel_rfl) (by kernel_rfl) (by kernel_rfl) (fun _ _ _ h => h) (by rfl) (by assumption) ?_
                  simp only [List.set_cons_zero, List.set_cons_succ]
                  refine skip_at 30 69 rfl rfl (by kernel_rfl) (by kernel_rfl) (by kernel_rfl) (fun _ _ _ h => h) (by rfl) (by assumption) ?_
                  simp only [List.set_cons_zero, List.set_cons_succ]
                  refine skip_at 31 70 rfl rfl (by kernel_rfl) (by kernel_rfl) (by kernel_rfl) (fun _ _ _ h => h) (by rfl) (by assumption) ?_
                  simp only [List.set_cons_zero, List.set_cons_succ]
                  refine skip_at 32 71 rfl rfl (by kernel_rfl) (by kernel_rfl) (by kernel_rfl) (fun _ _ _ h => h) (by rfl) (by assumption) ?_
                  simp only [List.set_cons_zero, List.set_cons_succ]
                  refine take_at 33 72 (v := ?_) rfl rfl (by kernel_rfl) (by kernel_rfl) (by kernel_rfl) (fun _ _ _ h => h) (by rfl) ?y33qb (by assumption) ?r33qb
                  case y33qb =>
                    intro w hSw
                    try dsimp only at hSw
                    go_simp
                    try with_reducible rfl
                  simp only [List.set_cons_zero, List.set_cons_succ]
                  refine take_at 34 73 (v := ?_) rfl rfl (by kernel_rfl) (by kernel_rfl) (by kernel_rfl) (fun _ _ _ h => h) (by rfl) ?y34qb (by assumption) ?r34qb
                  case y34qb =>
                    intro w hSw
                    try dsimp only at hSw
                    go_simp
                    try with_reducible rfl
                  simp only [List.set_cons_zero, List.set_cons_succ]
                  refine take_at 35 38 (v := ?_) rfl rfl (by kernel_rfl) (by kernel_rfl) (by kernel_rfl) (fun _ _ _ h => h) (by rfl) ?y35qb (by assumption) ?r35qb
                  case y35qb =>
                    intro w hSw
                    try dsimp only at hSw
                    go_simp
                    try with_reducible rfl
                  simp only [List.set_cons_zero, List.set_cons_succ]
                  refine wpAnyH_done (by kernel_rfl) ?_ _
                  go_wp2_with fail
                  go_ret
                  exact ⟨ret_int (by rw [Hhit.out (by rw [HT.out]; decide), HT.out]), below_step hbo hHeld.1⟩

            · have HW := Lib.hid (show betwB s.week 1 60 = false by simpa using hw6)
              have HT := Lib.hid (stH_week Hsk.out HH.out HC.out HW.out)
              clear hw6
              go_wp2_with fail
              refine (playerAt_yes lo' s.player _ ps _ HPo.out HH.out).mono ?_
              rintro e w1 ⟨r, rfl, hb1⟩
              obtain ⟨x0, x1, x2⟩ := HX.out w1 hb1
              go_wp2_with fail
              refine (keyR_calls s.club _ (by omega)).mono ?_
              rintro e w' ⟨rfl, rfl⟩
              rw [HK.out]
              go_wp2_with fail
              refine (weekR_calls s.week _).mono ?_
              rintro e w' ⟨rfl, rfl⟩
              rw [HW.out]
              go_wp2_with fail
              go_ret
              exact ⟨ret_int (by rw [Hhit.out (by rw [HT.out]; decide), HT.out]), below_step hbo hb1⟩

          · have HK := Lib.hid (show keyB s.club = false by simpa using hky)
            have HC := Lib.hid (show clubOk s = false by unfold clubOk; rw [HK.out]; simp [hc0])
            have HT := Lib.hid (stH_club Hsk.out HH.out HC.out)
            clear hc0 hky
            go_wp2_with fail
            refine (playerAt_yes lo' s.player _ ps _ HPo.out HH.out).mono ?_
            rintro e w1 ⟨r, rfl, hb1⟩
            obtain ⟨x0, x1, x2⟩ := HX.out w1 hb1
            go_wp2_with fail
            refine (keyR_calls s.club _ (by omega)).mono ?_
            rintro e w' ⟨rfl, rfl⟩
            rw [HK.out]
            go_wp2_with fail
            go_ret
            exact ⟨ret_int (by rw [Hhit.out (by rw [HT.out]; decide), HT.out]), below_step hbo hb1⟩
    · obtain rfl : k = ss.length := by omega
      go_wp2_with fail
      go_ret
      exact ⟨ret_int (by rw [HE.out]; exact (errsTo_none H0.out).symm), hb⟩
end Go.Proofs.YtmjkbmkjnbpgeaaGreatDoor
