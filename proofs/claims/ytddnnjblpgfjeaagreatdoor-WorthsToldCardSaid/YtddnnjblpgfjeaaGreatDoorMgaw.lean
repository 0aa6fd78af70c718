/- AssetsFault and PlacesFault: the reference's way comes to the same. -/
import Derived.Test.YtddnnjblpgfjeaaGreatDoorMgar
import Derived.Test.YtddnnjblpgfjeaaGreatDoorMgav
namespace Go.Proofs.YtddnnjblpgfjeaaGreatDoor
open Go.RowKit

theorem eachE_hitG {n k : Nat} {most : Int} {f : Nat → Int} (hm : (n : Int) ≤ most) (hk : k < n) (h0 : ∀ i, i < k → f i = 0) (h : f k ≠ 0) : eachE n most f = f k := by
 unfold eachE
 rw [if_neg (by omega), Int.toNat_natCast]
 exact errsTo_hit hk h0 h
theorem eachE_noneG {n : Nat} {most : Int} {f : Nat → Int} (hm : (n : Int) ≤ most) (h0 : ∀ i, i < n → f i = 0) : eachE n most f = 0 := by
 unfold eachE
 rw [if_neg (by omega), Int.toNat_natCast]
 exact errsTo_none h0
def asAtt (xs : List AsD) (i : Nat) : AsD := asAt xs i
theorem asAtt_some {xs : List AsD} {i : Nat} {c : AsD} (h : xs[i]? = some c) : asAtt xs i = c := by simp [asAtt, asAt, h]
set_option maxRecDepth 100000 in
set_option maxHeartbeats 8000000 in
theorem asFault_calls (lo : Nat) (v : Value) (xs : List AsD) (w : World) (hR : Ass w lo v xs) (hs : ∀ c ∈ xs, SmallA c) (hn : xs.length ≤ 1000000) :
  Calls Tryz.prog 26 #[v] w (IntBelow (chkA xs) w) := by
 have hat := as_at hR
 obtain ⟨ra, rc, hv⟩ := as_shape hR
 have Hs := Lib.hid hs
 have Hat := Lib.hid hat
 rw [hv] at Hat ⊢
 clear hs hR hat hv
 by_cases hm : xs.length ≤ 300
 ·have Hm := Lib.hid (show (xs.length : Int) ≤ 300 by omega)
  go_enter Tryz.func26, Tryz.ntmps26; go_wp2_with fail
  go_loopw [10] (fun i wr => ∃ k : Nat, k ≤ xs.length ∧ i = .int .i64 k ∧ Hid (∀ i, i < k → asF xs i = 0) ∧ Below w.heap.size w wr) (fun i _ => xs.length - (intOf i).toNat)
  case atStart => exact ⟨0, Nat.zero_le _, rfl, Lib.hid (fun i hi => by omega), Below.refl _ _⟩
  case round =>
   obtain ⟨k, hk, rfl, H0, hb⟩ := hrel; by_cases hlt : k < xs.length
   ·obtain ⟨c, hc⟩ : ∃ c, xs[k]? = some c := ⟨xs[k], List.getElem?_eq_getElem hlt⟩
    obtain ⟨s1, s2, -⟩ := Hs.out c (List.mem_of_getElem? hc); have HF := Lib.hid (show asF xs k = firstE [unlessE (keyB c.player) 5, unlessE (keyB c.pos) 5, unlessE (betwB c.value (-1000000) 1000000) 1, unlessE (decide (k = 0) || ltS (asAtt xs (k - 1)).player c.player) 7] by rw [asF, asAt_some hc]; rfl)
    have Hhit := Lib.hid (fun (h : asF xs k ≠ 0) => (show chkA xs = asF xs k from eachE_hitG Hm.out hlt H0.out h))
    have Hnext := Lib.hid (fun (h : asF xs k = 0) i (hi : i < k + 1) => (show asF xs i = 0 by
     rcases Nat.lt_succ_iff_lt_or_eq.1 hi with h' | rfl
     ·exact H0.out i h'
     ·exact h))
    rcases Hat.out with ⟨_, h⟩ | ⟨g, off, cap, e, _, hg, _, hcell⟩
    ·rw [h] at hlt; simp at hlt
    simp only [Value.slice.injEq] at e
    obtain ⟨rfl, -, rfl⟩ := e; obtain ⟨q0, q1, q2⟩ := hcell k c hc; have p0 := below_cell hb q0; have p1 := below_cell hb q1; have p2 := below_cell hb q2; have Hcell := Lib.hid hcell; clear hc hcell q0 q1 q2; go_upto_region 6 with fail
    obtain ⟨wA, hwA⟩ : ∃ wA, wA = wr.alloc (.cells #[.string c.player, .string c.pos, .int .i64 c.value] 78) := ⟨_, rfl⟩
    obtain ⟨X, hX⟩ : ∃ X, X = wr.heap.size := ⟨_, rfl⟩
    have hbA : Below w.heap.size w wA := by rw [hwA]; exact below_step hb (below_alloc wr _)
    have hx : wA.heap[X]? = some (.cells #[.string c.player, .string c.pos, .int .i64 c.value] 78 (0, 0)) := by rw [hwA, hX]; exact heap_alloc_new wr _
    rw [← hwA, ← hX]; have x0 := cell_at hx 0 rfl; have x1 := cell_at hx 1 rfl; have x2 := cell_at hx 2 rfl; have Hx := Lib.hid hx; have HbA := Lib.hid hbA; clear hwA hX hbA hx hb p0 p1 p2; cases hq0 : keyB c.player
    ·have HQ0 := Lib.hid hq0
     have HN := Lib.hid (show asF xs k = 5 by rw [HF.out, HQ0.out]; simp [unlessE, firstE])
     clear hq0; go_wp2_with fail
     refine (keyQ_calls _ _ (by omega)).mono ?_
     rintro e w' ⟨rfl, hb0⟩; rw [HQ0.out]; have hx0 := cells_later Hx.out hb0; replace HbA := Lib.hid (below_step HbA.out hb0); replace Hx := Lib.hid hx0; clear x0 x1 x2 hb0; have x0 := cell_at hx0 0 rfl; have x1 := cell_at hx0 1 rfl; have x2 := cell_at hx0 2 rfl; clear hx0; go_wp2_with fail
     go_ret
     exact ⟨ret_int (by rw [Hhit.out (by rw [HN.out]; omega), HN.out]), HbA.out⟩
    ·have HQ0 := Lib.hid hq0
     clear hq0; go_wp2_with fail
     refine (keyQ_calls _ _ (by omega)).mono ?_
     rintro e w' ⟨rfl, hb0⟩; rw [HQ0.out]; have hx0 := cells_later Hx.out hb0; replace HbA := Lib.hid (below_step HbA.out hb0); replace Hx := Lib.hid hx0; clear x0 x1 x2 hb0; have x0 := cell_at hx0 0 rfl; have x1 := cell_at hx0 1 rfl; have x2 := cell_at hx0 2 rfl; clear hx0; cases hq1 : keyB c.pos
     ·have HQ1 := Lib.hid hq1
      have HN := Lib.hid (show asF xs k = 5 by rw [HF.out, HQ0.out, HQ1.out]; simp [unlessE, firstE])
      clear hq1; go_wp2_with fail
      refine (keyQ_calls _ _ (by omega)).mono ?_
      rintro e w' ⟨rfl, hb1⟩; rw [HQ1.out]; have hx1 := cells_later Hx.out hb1; replace HbA := Lib.hid (below_step HbA.out hb1); replace Hx := Lib.hid hx1; clear x0 x1 x2 hb1; have x0 := cell_at hx1 0 rfl; have x1 := cell_at hx1 1 rfl; have x2 := cell_at hx1 2 rfl; clear hx1; go_wp2_with fail
      go_ret
      exact ⟨ret_int (by rw [Hhit.out (by rw [HN.out]; omega), HN.out]), HbA.out⟩
     ·have HQ1 := Lib.hid hq1
      clear hq1; go_wp2_with fail
      refine (keyQ_calls _ _ (by omega)).mono ?_
      rintro e w' ⟨rfl, hb1⟩; rw [HQ1.out]; have hx1 := cells_later Hx.out hb1; replace HbA := Lib.hid (below_step HbA.out hb1); replace Hx := Lib.hid hx1; clear x0 x1 x2 hb1; have x0 := cell_at hx1 0 rfl; have x1 := cell_at hx1 1 rfl; have x2 := cell_at hx1 2 rfl; clear hx1; cases hq2 : betwB c.value (-1000000) 1000000
      ·have HQ2 := Lib.hid hq2
       have HN := Lib.hid (show asF xs k = 1 by rw [HF.out, HQ0.out, HQ1.out, HQ2.out]; simp [unlessE, firstE])
       clear hq2; go_wp2_with fail
       refine (inQ_calls _ _ _ _).mono ?_; rintro e w' ⟨rfl, rfl⟩; rw [HQ2.out]; go_wp2_with fail
       go_ret
       exact ⟨ret_int (by rw [Hhit.out (by rw [HN.out]; omega), HN.out]), HbA.out⟩
      ·have HQ2 := Lib.hid hq2
       clear hq2; go_wp2_with fail
       refine (inQ_calls _ _ _ _).mono ?_; rintro e w' ⟨rfl, rfl⟩; rw [HQ2.out]; by_cases hz : k = 0
       ·have HN := Lib.hid (Hnext.out (by rw [HF.out, HQ0.out, HQ1.out, HQ2.out]; simp [unlessE, firstE, hz]))
        have e0 : decide (0 < k) = false := by simp [hz]
        have e0' : ¬ (0 : Int) < (k : Int) := by omega
        clear hz; go_wp2_with fail
        go_quiet (fail)
        go_wp2_with fail
        go_roundw
        case rel => exact ⟨k + 1, by omega, by go_num, HN, below_drewNG HbA.out _⟩
        case measure => simp [intOf]; omega
       ·obtain ⟨sp, hsp⟩ : ∃ sp, xs[k - 1]? = some sp := ⟨_, List.getElem?_eq_getElem (show k - 1 < xs.length by omega)⟩
        have Hsp := Lib.hid (asAtt_some hsp); have e0 : 0 < k := by omega
        have e0' : decide (0 < k) = true := decide_eq_true e0
        have w1 : IntKind.i64.wrap ((k : Int) - 1) = ((k - 1 : Nat) : Int) := by rw [IntWalk.i64_in _ (by omega)]; omega
        have w2 : ((k - 1 : Nat) : Int) < (xs.length : Int) := by omega
        obtain ⟨r0, -⟩ := Hcell.out (k - 1) sp hsp; have r0' := below_cell HbA.out r0
        cases ho : ltS sp.player c.player
        ·have HN := Lib.hid (show asF xs k = 7 by rw [HF.out, HQ0.out, HQ1.out, HQ2.out, Hsp.out, ho]; simp [unlessE, firstE, hz])
         have ho' : (Op.bytesLess c.player.toList sp.player.toList || c.player.toList == sp.player.toList) = true := by rw [leS_eq, ho]; rfl
         clear ho hz hsp r0; go_wp2_with fail
         go_quiet (fail)
         go_wp2_with fail
         go_ret
         exact ⟨ret_int (by rw [Hhit.out (by rw [HN.out]; omega), HN.out]), below_drewNG HbA.out _⟩
        ·have HN := Lib.hid (Hnext.out (by rw [HF.out, HQ0.out, HQ1.out, HQ2.out, Hsp.out, ho]; simp [unlessE, firstE]))
         have ho' : (Op.bytesLess c.player.toList sp.player.toList || c.player.toList == sp.player.toList) = false := by rw [leS_eq, ho]; rfl
         clear ho hz hsp r0; go_wp2_with fail
         go_quiet (fail)
         go_wp2_with fail
         go_roundw
         case rel => exact ⟨k + 1, by omega, by go_num, HN, below_drewNG HbA.out _⟩
         case measure => simp [intOf]; omega
   ·obtain rfl : k = xs.length := by omega
    have HE := Lib.hid (show chkA xs = 0 from eachE_noneG Hm.out H0.out)
    go_wp2_with fail
    go_ret
    exact ⟨ret_int HE.out.symm, hb⟩
 ·have HE := Lib.hid (show chkA xs = 2 by unfold chkA eachE; rw [if_pos (by omega)])
  have hm' : 300 < xs.length := by omega
  clear Hat hm; go_enter Tryz.func26, Tryz.ntmps26; go_wp2_with fail
  go_ret
  exact ⟨ret_int HE.out.symm, Below.refl _ _⟩
set_option maxRecDepth 100000 in
set_option maxHeartbeats 8000000 in
theorem plFault_calls (lo : Nat) (v : Value) (xs : List PlD) (w : World) (hR : Pls w lo v xs) (hs : ∀ c ∈ xs, SmallP c) (hn : xs.length ≤ 1000000) :
  Calls Tryz.prog 27 #[v] w (IntBelow (chkP xs) w) := by
 have hat := pl_at hR
 obtain ⟨ra, rc, hv⟩ := pl_shape hR
 have Hs := Lib.hid hs
 have Hat := Lib.hid hat
 rw [hv] at Hat ⊢
 clear hs hR hat hv
 by_cases hm : xs.length ≤ 10
 ·have Hm := Lib.hid (show (xs.length : Int) ≤ 10 by omega)
  go_enter Tryz.func27, Tryz.ntmps27; go_wp2_with fail
  go_loopw [10] (fun i wr => ∃ k : Nat, k ≤ xs.length ∧ i = .int .i64 k ∧ Hid (∀ i, i < k → plF xs i = 0) ∧ Below w.heap.size w wr) (fun i _ => xs.length - (intOf i).toNat)
  case atStart => exact ⟨0, Nat.zero_le _, rfl, Lib.hid (fun i hi => by omega), Below.refl _ _⟩
  case round =>
   obtain ⟨k, hk, rfl, H0, hb⟩ := hrel; by_cases hlt : k < xs.length
   ·obtain ⟨c, hc⟩ : ∃ c, xs[k]? = some c := ⟨xs[k], List.getElem?_eq_getElem hlt⟩
    obtain ⟨s1, -⟩ := Hs.out c (List.mem_of_getElem? hc); have HF := Lib.hid (show plF xs k = firstE [unlessE (keyB c.pos) 5, unlessE (betwB c.many 0 12) 1, unlessE (decide (k = 0) || ltS (plAtt xs (k - 1)).pos c.pos) 7] by rw [plF, plAtt_some hc])
    have Hhit := Lib.hid (fun (h : plF xs k ≠ 0) => (show chkP xs = plF xs k from eachE_hitG Hm.out hlt H0.out h))
    have Hnext := Lib.hid (fun (h : plF xs k = 0) i (hi : i < k + 1) => (show plF xs i = 0 by
     rcases Nat.lt_succ_iff_lt_or_eq.1 hi with h' | rfl
     ·exact H0.out i h'
     ·exact h))
    rcases Hat.out with ⟨_, h⟩ | ⟨g, off, cap, e, _, hg, _, hcell⟩
    ·rw [h] at hlt; simp at hlt
    simp only [Value.slice.injEq] at e
    obtain ⟨rfl, -, rfl⟩ := e; obtain ⟨q0, q1⟩ := hcell k c hc; have p0 := below_cell hb q0; have p1 := below_cell hb q1; have Hcell := Lib.hid hcell; clear hc hcell q0 q1; go_upto_region 6 with fail
    obtain ⟨wA, hwA⟩ : ∃ wA, wA = wr.alloc (.cells #[.string c.pos, .int .i64 c.many] 125) := ⟨_, rfl⟩
    obtain ⟨X, hX⟩ : ∃ X, X = wr.heap.size := ⟨_, rfl⟩
    have hbA : Below w.heap.size w wA := by rw [hwA]; exact below_step hb (below_alloc wr _)
    have hx : wA.heap[X]? = some (.cells #[.string c.pos, .int .i64 c.many] 125 (0, 0)) := by rw [hwA, hX]; exact heap_alloc_new wr _
    rw [← hwA, ← hX]; have x0 := cell_at hx 0 rfl; have x1 := cell_at hx 1 rfl; have Hx := Lib.hid hx; have HbA := Lib.hid hbA; clear hwA hX hbA hx hb p0 p1; cases hq0 : keyB c.pos
    ·have HQ0 := Lib.hid hq0
     have HN := Lib.hid (show plF xs k = 5 by rw [HF.out, HQ0.out]; simp [unlessE, firstE])
     clear hq0; go_wp2_with fail
     refine (keyQ_calls _ _ (by omega)).mono ?_
     rintro e w' ⟨rfl, hb0⟩; rw [HQ0.out]; have hx0 := cells_later Hx.out hb0; replace HbA := Lib.hid (below_step HbA.out hb0); replace Hx := Lib.hid hx0; clear x0 x1 hb0; have x0 := cell_at hx0 0 rfl; have x1 := cell_at hx0 1 rfl; clear hx0; go_wp2_with fail
     go_ret
     exact ⟨ret_int (by rw [Hhit.out (by rw [HN.out]; omega), HN.out]), HbA.out⟩
    ·have HQ0 := Lib.hid hq0
     clear hq0; go_wp2_with fail
     refine (keyQ_calls _ _ (by omega)).mono ?_
     rintro e w' ⟨rfl, hb0⟩; rw [HQ0.out]; have hx0 := cells_later Hx.out hb0; replace HbA := Lib.hid (below_step HbA.out hb0); replace Hx := Lib.hid hx0; clear x0 x1 hb0; have x0 := cell_at hx0 0 rfl; have x1 := cell_at hx0 1 rfl; clear hx0; cases hq1 : betwB c.many 0 12
     ·have HQ1 := Lib.hid hq1
      have HN := Lib.hid (show plF xs k = 1 by rw [HF.out, HQ0.out, HQ1.out]; simp [unlessE, firstE])
      clear hq1; go_wp2_with fail
      refine (inQ_calls _ _ _ _).mono ?_; rintro e w' ⟨rfl, rfl⟩; rw [HQ1.out]; go_wp2_with fail
      go_ret
      exact ⟨ret_int (by rw [Hhit.out (by rw [HN.out]; omega), HN.out]), HbA.out⟩
     ·have HQ1 := Lib.hid hq1
      clear hq1; go_wp2_with fail
      refine (inQ_calls _ _ _ _).mono ?_; rintro e w' ⟨rfl, rfl⟩; rw [HQ1.out]; by_cases hz : k = 0
      ·have HN := Lib.hid (Hnext.out (by rw [HF.out, HQ0.out, HQ1.out]; simp [unlessE, firstE, hz]))
       have e0 : decide (0 < k) = false := by simp [hz]
       have e0' : ¬ (0 : Int) < (k : Int) := by omega
       clear hz; go_wp2_with fail
       go_quiet (fail)
       go_wp2_with fail
       go_roundw
       case rel => exact ⟨k + 1, by omega, by go_num, HN, below_drewNG HbA.out _⟩
       case measure => simp [intOf]; omega
      ·obtain ⟨sp, hsp⟩ : ∃ sp, xs[k - 1]? = some sp := ⟨_, List.getElem?_eq_getElem (show k - 1 < xs.length by omega)⟩
       have Hsp := Lib.hid (plAtt_some hsp); have e0 : 0 < k := by omega
       have e0' : decide (0 < k) = true := decide_eq_true e0
       have w1 : IntKind.i64.wrap ((k : Int) - 1) = ((k - 1 : Nat) : Int) := by rw [IntWalk.i64_in _ (by omega)]; omega
       have w2 : ((k - 1 : Nat) : Int) < (xs.length : Int) := by omega
       obtain ⟨r0, -⟩ := Hcell.out (k - 1) sp hsp; have r0' := below_cell HbA.out r0
       cases ho : ltS sp.pos c.pos
       ·have HN := Lib.hid (show plF xs k = 7 by rw [HF.out, HQ0.out, HQ1.out, Hsp.out, ho]; simp [unlessE, firstE, hz])
        have ho' : (Op.bytesLess c.pos.toList sp.pos.toList || c.pos.toList == sp.pos.toList) = true := by rw [leS_eq, ho]; rfl
        clear ho hz hsp r0; go_wp2_with fail
        go_quiet (fail)
        go_wp2_with fail
        go_ret
        exact ⟨ret_int (by rw [Hhit.out (by rw [HN.out]; omega), HN.out]), below_drewNG HbA.out _⟩
       ·have HN := Lib.hid (Hnext.out (by rw [HF.out, HQ0.out, HQ1.out, Hsp.out, ho]; simp [unlessE, firstE]))
        have ho' : (Op.bytesLess c.pos.toList sp.pos.toList || c.pos.toList == sp.pos.toList) = false := by rw [leS_eq, ho]; rfl
        clear ho hz hsp r0; go_wp2_with fail
        go_quiet (fail)
        go_wp2_with fail
        go_roundw
        case rel => exact ⟨k + 1, by omega, by go_num, HN, below_drewNG HbA.out _⟩
        case measure => simp [intOf]; omega
   ·obtain rfl : k = xs.length := by omega
    have HE := Lib.hid (show chkP xs = 0 from eachE_noneG Hm.out H0.out)
    go_wp2_with fail
    go_ret
    exact ⟨ret_int HE.out.symm, hb⟩
 ·have HE := Lib.hid (show chkP xs = 2 by unfold chkP eachE; rw [if_pos (by omega)])
  have hm' : 10 < xs.length := by omega
  clear Hat hm; go_enter Tryz.func27, Tryz.ntmps27; go_wp2_with fail
  go_ret
  exact ⟨ret_int HE.out.symm, Below.refl _ _⟩
end Go.Proofs.YtddnnjblpgfjeaaGreatDoor
