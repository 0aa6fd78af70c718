/- Plain facts: the program's and the reference's answers on fixtures are one. -/
import Derived.Test.YthmdhokmgicnmaaGreatDoorFxk
import Derived.Test.YthmdhokmgicnmaaGreatDoorFxo
import Derived.Test.YthmdhokmgicnmaaGreatDoorFxq
import Derived.Test.YthmdhokmgicnmaaGreatDoorPureb
namespace Go.Proofs.YthmdhokmgicnmaaGreatDoor
open Go.RowKit

theorem cmpFx_neg (a b : FD) : decide (cmpFx a b < 0) = !(decide (0 < cmpWM a b) || (decide (cmpWM a b = 0) && !ltS a.home b.home)) := by
  have h1 : cmpFx a b = if cmpWM a b = 0 then cmpS a.home b.home else cmpWM a b := by
    unfold cmpFx cmpWM
    simp only [firstE]
    by_cases ha : Lib.compareInt a.week b.week = 0
    · by_cases hb : Lib.compareInt a.moment b.moment = 0
      · simp [ha, hb]
        intro h; exact h.symm
      · simp [ha, hb]
    · simp [ha]
  by_cases hz : cmpWM a b = 0
  · rw [h1, if_pos hz, cmpS_neg, hz]
    simp
  · rw [h1, if_neg hz, decide_eq_false hz]
    simp only [Bool.false_and, Bool.or_false]
    by_cases hp : 0 < cmpWM a b
    · rw [decide_eq_true hp, decide_eq_false (by omega)]; rfl
    · rw [decide_eq_false hp, decide_eq_true (by omega)]; rfl
theorem fxF_fxH (fs : List FD) (i : Nat) : fxF fs i = fxH fs i := by
  unfold fxF fxH
  simp only
  rw [cmpFx_neg]
  have hb : ((fxAt fs i).home.toList != (fxAt fs i).away.toList) = !beqS (fxAt fs i).home (fxAt fs i).away := rfl
  rw [hb]
  generalize (betwB (fxAt fs i).week 1 60 && betwB (fxAt fs i).moment 0 345686399999) = A
  generalize (keyB (fxAt fs i).home && keyB (fxAt fs i).away) = B
  generalize beqS (fxAt fs i).home (fxAt fs i).away = C
  generalize (decide (0 < cmpWM (fxAt fs (i - 1)) (fxAt fs i)) || (decide (cmpWM (fxAt fs (i - 1)) (fxAt fs i) = 0) && !ltS (fxAt fs (i - 1)).home (fxAt fs i).home)) = D
  by_cases hi : i = 0
  · rw [if_pos hi, decide_eq_true hi]
    cases A <;> cases B <;> cases C <;> rfl
  · rw [if_neg hi, decide_eq_false hi]
    cases A <;> cases B <;> cases C <;> cases D <;> rfl
theorem chkFx_eq (fs : List FD) : chkFx fs = refFx fs := by
  unfold chkFx refFx
  exact eachE_congr fun i _ => fxF_fxH fs i
theorem gamesE_eq (fs : List FD) (club : ByteArray) (week : Int) : gamesE fs club week = firstE [refFx fs, unlessE (keyB club) 5, unlessE (betwB week 1 60) 1] := by
  unfold gamesE; rw [chkFx_eq]
theorem idleE_eq (fs : List FD) (week : Int) : idleE fs week = firstE [refFx fs, unlessE (betwB week 1 60) 1] := by
  unfold idleE; rw [chkFx_eq]
theorem lkA_some (l : List (ByteArray × Int)) (k : ByteArray) : (lkA l k).isSome = l.any fun p => beqS p.1 k := by
  unfold lkA
  rw [Option.isSome_map, Bool.eq_iff_iff, List.find?_isSome]
  simp
theorem idleB_eq (fs : List FD) (week : Int) (c : ByteArray) : idleB fs week c = !(lkA (bgL week fs) c).isSome := by
  unfold idleB
  rw [lkA_some]
  unfold bgL
  rw [List.any_flatMap]
  induction fs with
  | nil => rfl
  | cons f fs ih =>
    rw [List.any_cons, List.filter_cons]
    unfold meets at ih ⊢
    cases hw : f.week == week
    · simp only [Bool.false_and, Bool.false_eq_true, if_false, List.any_nil, Bool.false_or]
      exact ih
    · cases hh : beqS f.home c
      · cases ha : beqS f.away c
        · simpa [hh, ha, hw] using ih
        · simp [hh, ha]
      · simp [hh]
theorem idleR_eq {fs : List FD} {week : Int} (h : idleE fs week = 0) : idleR fs week = compactL (sortL (idlesL fs week)) := by
  unfold idleR idlesL
  rw [if_pos h, cs_filter]
  congr 2
  exact List.filter_congr fun c _ => (idleB_eq fs week c).symm
theorem idleR_le (fs : List FD) (week : Int) : (idleR fs week).length ≤ 2 * fs.length := by
  unfold idleR
  split
  · refine Nat.le_trans (List.length_filter_le _ _) (Nat.le_trans (compactL_le _) ?_)
    rw [sortL_length, clubsL_length]; omega
  · simp
theorem gamesR_le (fs : List FD) (club : ByteArray) (week : Int) : (gamesR fs club week).length ≤ fs.length := by
  unfold gamesR
  split
  · exact List.length_filter_le _ _
  · simp
end Go.Proofs.YthmdhokmgicnmaaGreatDoor
