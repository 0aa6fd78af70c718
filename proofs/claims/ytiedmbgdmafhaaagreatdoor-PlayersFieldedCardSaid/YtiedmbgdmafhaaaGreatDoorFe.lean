/- slices.Equal at fixtures. Plain facts: the program's and the reference's answers on fixtures are one. -/
import Derived.Test.YtiedmbgdmafhaaaGreatDoorFa
import Derived.Laws.StructEq
import Derived.Test.YtiedmbgdmafhaaaGreatDoorFxk
import Derived.Test.YtiedmbgdmafhaaaGreatDoorFd
import Derived.Test.YtiedmbgdmafhaaaGreatDoorBk
namespace Go.Proofs.YtiedmbgdmafhaaaGreatDoor
open Go.RowKit
theorem below_drewN {w w' : World} (h : Below w.heap.size w w') (n : Nat) : Below w.heap.size w (w'.drewN n) := ⟨h.os, h.tape, h.output, h.size, h.block⟩

/-- Are two fixtures one? -/
def feq (a b : FD) : Bool := a.week == b.week && (a.moment == b.moment && (beqS a.home b.home && beqS a.away b.away))
theorem feq_iff {a b : FD} : feq a b = true ↔ a = b := by
  unfold feq
  cases a; cases b
  simp only [Bool.and_eq_true, beq_iff_eq, beqS_iff, FD.mk.injEq]
instance : DecidableEq FD := fun a b => decidable_of_iff (feq a b = true) feq_iff
theorem run_neqFx (a b : FD) (w : World) : (binOp .neq 72 (.agg #[.int .i64 a.week, .int .i64 a.moment, .string a.home, .string a.away]) (.agg #[.int .i64 b.week, .int .i64 b.moment, .string b.home, .string b.away])).run Tryz.prog w = .ok (.bool (!feq a b)) w := by
  have u1 := Tryz.underlying3
  have u2 := Tryz.underlying9
  have hS : Tryz.prog.underlying 72 = some (.struct (Tryz.prog.fieldsOf 72)) := by kernel_rfl
  have hp : Tryz.prog.stoodInHeld 72 = false := by kernel_rfl
  rw [run_neq_struct, show (10000 : Nat) = 9999 + 1 from rfl, run_equalIn_agg w 9999 72 _ _ hS hp]
  simp only [Program.fieldsOf, Tryz.underlying72]
  go_simp
  unfold feq beqS
  cases h1 : a.week == b.week <;> cases h2 : a.moment == b.moment <;> cases h3 : a.home.toList == b.home.toList <;> cases h4 : a.away.toList == b.away.toList <;> simp_all
theorem eqGuardFx (x y : Operand) (xs ys : Array Value) (w : World) : (eqGuard .neq 72 x y (.agg xs) (.agg ys)).run Tryz.prog w = .ok () w := run_eqGuard_agg w .neq 72 x y xs ys (by kernel_rfl)
set_option maxRecDepth 100000 in
set_option maxHeartbeats 4000000 in
theorem equalFx_calls (lo lo' : Nat) (v v' : Value) (xs ys : List FD) (w : World) (hv : Fxs w lo v xs) (hv' : Fxs w lo' v' ys) (ha : xs.length ≤ 1000000) (hb : ys.length ≤ 1000000) :
    Calls Tryz.prog 45 #[v, v'] w (BoolIs (decide (xs = ys)) w) := by
  obtain ⟨xa, xc, rfl⟩ := fxs_shape hv
  obtain ⟨ya, yc, rfl⟩ := fxs_shape hv'
  by_cases hl : xs.length = ys.length
  · have HD := Lib.hid (show ∀ (i : Nat) (a b : FD), xs[i]? = some a → ys[i]? = some b → feq a b = false → decide (xs = ys) = false from fun i a b h1 h2 h3 => by
      refine decide_eq_false fun e => ?_
      rw [e, h2] at h1
      cases h1
      rw [feq_iff.2 rfl] at h3; cases h3)
    have HT := Lib.hid (show (∀ (i : Nat) (a b : FD), i < xs.length → xs[i]? = some a → ys[i]? = some b → feq a b = true) → decide (xs = ys) = true from fun h => by
      refine decide_eq_true (List.ext_getElem? fun i => ?_)
      by_cases hi : i < xs.length
      · rw [List.getElem?_eq_getElem hi, List.getElem?_eq_getElem (show i < ys.length by omega)]
        exact congrArg some (feq_iff.1 (h i _ _ hi (List.getElem?_eq_getElem hi) (List.getElem?_eq_getElem _)))
      · rw [List.getElem?_eq_none (by omega), List.getElem?_eq_none (by omega)])
    generalize decide (xs = ys) = R at HD HT ⊢
    have Hc : Hid (∀ (i : Nat) (a b : FD), xs[i]? = some a → ys[i]? = some b → ∃ g off g' off', xa = some ⟨g, off, none⟩ ∧ ya = some ⟨g', off', none⟩ ∧
        (w.cell? ⟨g, off + i * 4, none⟩ = some (.int .i64 a.week) ∧ w.cell? ⟨g, off + i * 4 + 1, none⟩ = some (.int .i64 a.moment) ∧ w.cell? ⟨g, off + i * 4 + 2, none⟩ = some (.string a.home) ∧ w.cell? ⟨g, off + i * 4 + 3, none⟩ = some (.string a.away)) ∧
        (w.cell? ⟨g', off' + i * 4, none⟩ = some (.int .i64 b.week) ∧ w.cell? ⟨g', off' + i * 4 + 1, none⟩ = some (.int .i64 b.moment) ∧ w.cell? ⟨g', off' + i * 4 + 2, none⟩ = some (.string b.home) ∧ w.cell? ⟨g', off' + i * 4 + 3, none⟩ = some (.string b.away))) := Lib.hid fun i a b h1 h2 => by
      rcases fxs_at hv with ⟨_, rfl⟩ | ⟨g, off, cap, e1, _, _, _, hc⟩
      · simp at h1
      · rcases fxs_at hv' with ⟨_, rfl⟩ | ⟨g', off', cap', e2, _, _, _, hc'⟩
        · simp at h2
        · simp only [Value.slice.injEq] at e1 e2
          exact ⟨g, off, g', off', e1.1, e2.1, hc i a h1, hc' i b h2⟩
    obtain ⟨n, hn⟩ : ∃ n, xs.length = n := ⟨_, rfl⟩
    have hn' : ys.length = n := by omega
    have HN := Lib.hid hn
    have HN' := Lib.hid hn'
    rw [hn, hn']
    rw [hn] at ha
    clear hv hv' hl hn hn' hb
    have e1 : ((n : Int) != (n : Int)) = false := by simp
    go_enter Tryz.func45, Tryz.ntmps45
    go_wp2_with fail
    go_loopw [13] (fun i wr => ∃ k : Nat, k ≤ n ∧ i = .int .i64 k ∧ Hid (∀ (i : Nat) (a b : FD), i < k → xs[i]? = some a → ys[i]? = some b → feq a b = true) ∧ Below w.heap.size w wr) (fun i _ => n - (intOf i).toNat)
    case atStart => exact ⟨0, Nat.zero_le _, rfl, Lib.hid fun i _ _ h => by omega, Below.refl _ _⟩
    case round =>
      obtain ⟨k, hk, rfl, H0, hb⟩ := hrel
      by_cases hlt : k < n
      · obtain ⟨a, hai⟩ : ∃ a, xs[k]? = some a := ⟨_, List.getElem?_eq_getElem (show k < xs.length by have := HN.out; omega)⟩
        obtain ⟨b, hbi⟩ : ∃ b, ys[k]? = some b := ⟨_, List.getElem?_eq_getElem (show k < ys.length by have := HN'.out; omega)⟩
        obtain ⟨g, off, g', off', rfl, rfl, ⟨p0, p1, p2, p3⟩, q0, q1, q2, q3⟩ := Hc.out k a b hai hbi
        have a0 := below_cell hb p0
        have a1 := below_cell hb p1
        have a2 := below_cell hb p2
        have a3 := below_cell hb p3
        have b0 := below_cell hb q0
        have b1 := below_cell hb q1
        have b2 := below_cell hb q2
        have b3 := below_cell hb q3
        have w3 : (k : Int) < (n : Int) := by omega
        have hne := run_neqFx a b
        have hgd := eqGuardFx
        have Ha := Lib.hid hai
        have Hb := Lib.hid hbi
        clear hai hbi p0 p1 p2 p3 q0 q1 q2 q3
        cases hf : feq a b
        · rw [hf] at hne
          have Hf := Lib.hid hf
          clear hf
          go_wp2_with fail
          go_quiet (fail)
          go_wp2_with fail
          go_ret
          exact ⟨ret_bool (HD.out k a b Ha.out Hb.out Hf.out).symm, below_drewN hb _⟩
        · rw [hf] at hne
          have H1 : Hid (∀ (i : Nat) (a b : FD), i < k + 1 → xs[i]? = some a → ys[i]? = some b → feq a b = true) := Lib.hid fun i x y hi hx hy => by
            rcases Nat.lt_succ_iff_lt_or_eq.1 hi with h | rfl
            · exact H0.out i x y h hx hy
            · rw [Ha.out] at hx; rw [Hb.out] at hy; cases hx; cases hy; exact hf
          clear hf
          go_wp2_with fail
          go_quiet (fail)
          go_wp2_with fail
          go_roundw
          case rel => exact ⟨k + 1, by omega, by go_num, H1, below_drewN hb _⟩
          case measure => simp [intOf]; omega
      · obtain rfl : k = n := by omega
        go_wp2_with fail
        go_ret
        exact ⟨ret_bool (HT.out fun i a b hi => H0.out i a b (by rw [← HN.out]; exact hi)).symm, hb⟩
  · have HR := Lib.hid (show decide (xs = ys) = false from decide_eq_false fun e => hl (by rw [e]))
    have e1 : ((xs.length : Int) != (ys.length : Int)) = true := by simp; omega
    have hl' : ¬ xs.length = ys.length := hl
    clear hv hv' hl
    go_enter Tryz.func45, Tryz.ntmps45
    go_wp2_with fail
    go_ret
    exact ⟨ret_bool HR.out.symm, Below.refl _ _⟩
end Go.Proofs.YtiedmbgdmafhaaaGreatDoor
namespace Go.Proofs.YtiedmbgdmafhaaaGreatDoor
open Go.RowKit

theorem cmpFx_neg (a b : FD) : decide (cmpFx a b < 0) = !(decide (0 < cmpWM a b) || (decide (cmpWM a b = 0) && !ltS a.home b.home)) := by
  have h1 : cmpFx a b = if cmpWM a b = 0 then cmpS a.home b.home else cmpWM a b := by
    unfold cmpFx cmpWM
    simp only [firstE]
    by_cases ha : Lib.compareInt a.week b.week = 0
    · by_cases hb : Lib.compareInt a.moment b.moment = 0
      · simp [ha, hb]
        intro h; exact h.symm
      · simp [ha, hb]
    · simp [ha]
  by_cases hz : cmpWM a b = 0
  · rw [h1, if_pos hz, cmpS_neg, hz]
    simp
  · rw [h1, if_neg hz, decide_eq_false hz]
    simp only [Bool.false_and, Bool.or_false]
    by_cases hp : 0 < cmpWM a b
    · rw [decide_eq_true hp, decide_eq_false (by omega)]; rfl
    · rw [decide_eq_false hp, decide_eq_true (by omega)]; rfl
theorem fxF_fxH (fs : List FD) (i : Nat) : fxF fs i = fxH fs i := by
  unfold fxF fxH
  simp only
  rw [cmpFx_neg]
  have hb : ((fxAt fs i).home.toList != (fxAt fs i).away.toList) = !beqS (fxAt fs i).home (fxAt fs i).away := rfl
  rw [hb]
  generalize (betwB (fxAt fs i).week 1 60 && betwB (fxAt fs i).moment 0 345686399999) = A
  generalize (keyB (fxAt fs i).home && keyB (fxAt fs i).away) = B
  generalize beqS (fxAt fs i).home (fxAt fs i).away = C
  generalize (decide (0 < cmpWM (fxAt fs (i - 1)) (fxAt fs i)) || (decide (cmpWM (fxAt fs (i - 1)) (fxAt fs i) = 0) && !ltS (fxAt fs (i - 1)).home (fxAt fs i).home)) = D
  by_cases hi : i = 0
  · rw [if_pos hi, decide_eq_true hi]
    cases A <;> cases B <;> cases C <;> rfl
  · rw [if_neg hi, decide_eq_false hi]
    cases A <;> cases B <;> cases C <;> cases D <;> rfl
theorem chkFx_eq (fs : List FD) : chkFx fs = refFx fs := by
  unfold chkFx refFx
  exact eachE_congr fun i _ => fxF_fxH fs i
theorem gamesE_eq (fs : List FD) (club : ByteArray) (week : Int) : gamesE fs club week = firstE [refFx fs, unlessE (keyB club) 5, unlessE (betwB week 1 60) 1] := by
  unfold gamesE; rw [chkFx_eq]
theorem idleE_eq (fs : List FD) (week : Int) : idleE fs week = firstE [refFx fs, unlessE (betwB week 1 60) 1] := by
  unfold idleE; rw [chkFx_eq]
theorem lkA_some (l : List (ByteArray × Int)) (k : ByteArray) : (lkA l k).isSome = l.any fun p => beqS p.1 k := by
  unfold lkA
  rw [Option.isSome_map, Bool.eq_iff_iff, List.find?_isSome]
  simp
theorem idleB_eq (fs : List FD) (week : Int) (c : ByteArray) : idleB fs week c = !(lkA (bgL week fs) c).isSome := by
  unfold idleB
  rw [lkA_some]
  unfold bgL
  rw [List.any_flatMap]
  induction fs with
  | nil => rfl
  | cons f fs ih =>
    rw [List.any_cons, List.filter_cons]
    unfold meets at ih ⊢
    cases hw : f.week == week
    · simp only [Bool.false_and, Bool.false_eq_true, if_false, List.any_nil, Bool.false_or]
      exact ih
    · cases hh : beqS f.home c
      · cases ha : beqS f.away c
        · simpa [hh, ha, hw] using ih
        · simp [hh, ha]
      · simp [hh]
theorem idleR_eq {fs : List FD} {week : Int} (h : idleE fs week = 0) : idleR fs week = compactL (sortL (idlesL fs week)) := by
  unfold idleR idlesL
  rw [if_pos h, cs_filter]
  congr 2
  exact List.filter_congr fun c _ => (idleB_eq fs week c).symm
theorem idleR_le (fs : List FD) (week : Int) : (idleR fs week).length ≤ 2 * fs.length := by
  unfold idleR
  split
  · refine Nat.le_trans (List.length_filter_le _ _) (Nat.le_trans (compactL_le _) ?_)
    rw [sortL_length, clubsL_length]; omega
  · simp
theorem gamesR_le (fs : List FD) (club : ByteArray) (week : Int) : (gamesR fs club week).length ≤ fs.length := by
  unfold gamesR
  split
  · exact List.length_filter_le _ _
  · simp
end Go.Proofs.YtiedmbgdmafhaaaGreatDoor
