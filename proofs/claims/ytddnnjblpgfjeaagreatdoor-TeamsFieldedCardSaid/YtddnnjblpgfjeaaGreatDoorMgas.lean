/- api.Asset looked for. -/
import Derived.Test.YtddnnjblpgfjeaaGreatDoorMgap
import Derived.Test.YtddnnjblpgfjeaaGreatDoorMgar
namespace Go.Proofs.YtddnnjblpgfjeaaGreatDoor
open Go.RowKit

set_option maxRecDepth 100000 in
set_option maxHeartbeats 2000000 in
theorem searchAs_calls (G : Nat) (caps : Array Value) (tv : Value) (c : AsD → Int) (lo : Nat) (v : Value) (ts : List AsD) (w : World) (hp : Ass w lo v ts) (eg : ∀ args w, (callFunc G args).run Tryz.prog w = .ok (.enter G args) w)
  (hc : ∀ (W : World) (x : AsD), Below w.heap.size w W → Calls Tryz.prog G (#[.agg #[.string x.player, .string x.pos, .int .i64 x.value], tv] ++ caps) W (IntBelow (c x) W)) :
  Calls Tryz.prog 147 #[v, tv, .func (.func G) #[] caps] w (FoundC c ts w) := by
 have Hc := Lib.hid hc
 clear hc
 rcases as_at hp with ⟨rfl, rfl⟩ | ⟨g, off, cap, rfl, _, hg, hn, hcell⟩
 ·clear hp
  go_enter Tryz.func147, Tryz.ntmps147; go_wp2_with fail
  refine wp_loop_rounds 1 ?_; rw [rounds_succ]; go_wp2_with fail
  go_ret2
  exact ⟨rfl, Below.refl _ _⟩
 ·clear hp
  have Hcell := Lib.hid hcell; obtain ⟨n, hnn⟩ : ∃ n, ts.length = n := ⟨_, rfl⟩
  have Hn := Lib.hid hnn; unfold FoundC; rw [hnn] at hn ⊢
  clear hcell hnn; have HBI := Lib.hid (show bsCI (kAt c ts) n = bsC (kAt c ts) n 0 n from rfl)
  have HBB := Lib.hid (show bsCB (kAt c ts) n = (decide (bsCI (kAt c ts) n < n) && decide (kAt c ts (bsCI (kAt c ts) n) = 0)) from rfl)
  generalize bsCB (kAt c ts) n = R at HBB ⊢
  generalize bsCI (kAt c ts) n = I at HBI HBB ⊢
  go_enter Tryz.func147, Tryz.ntmps147; go_wp2_with fail
  go_loopw [9, 10] (fun a b wr => ∃ i j : Nat, i ≤ j ∧ j ≤ n ∧ a = .int .i64 i ∧ b = .int .i64 j ∧ Below w.heap.size w wr ∧ Hid (∃ f, I = bsC (kAt c ts) f i j ∧ j - i ≤ f)) (fun a b _ => (intOf b).toNat - (intOf a).toNat)
  case atStart => exact ⟨0, n, by omega, by omega, rfl, rfl, Below.refl _ _, Lib.hid ⟨n, HBI.out, by omega⟩⟩
  case round =>
   obtain ⟨i, j, hij, hj, rfl, rfl, hb, Hf⟩ := hrel; by_cases hlt : i < j
   ·have hh : (i + j) / 2 < n := by omega
    obtain ⟨p, hpt⟩ : ∃ p, ts[(i + j) / 2]? = some p := ⟨_, List.getElem?_eq_getElem (by rw [Hn.out]; exact hh)⟩
    have Hk := Lib.hid (kAt_some (c := c) hpt); obtain ⟨h0, h1, h2⟩ := Hcell.out _ p hpt; have g0 := below_cell hb h0; have g1 := below_cell hb h1; have g2 := below_cell hb h2; clear hpt h0 h1 h2; go_wp2_with fail
    refine (Hc.out _ p hb).mono ?_; rintro e w' ⟨rfl, hb'⟩; have hb2 := below_step hb hb'; by_cases hl : c p < 0
    ·have e1 : decide (c p < 0) = true := decide_eq_true hl
     have Hf' := Lib.hid (show ∃ f, I = bsC (kAt c ts) f ((i + j) / 2 + 1) j ∧ j - ((i + j) / 2 + 1) ≤ f by
      obtain ⟨f, h1, h2⟩ := Hf.out; obtain ⟨f', h3, h4⟩ := bsC_left (c := kAt c ts) hlt h2 (by rw [Hk.out]; exact hl)
      exact ⟨f', h1.trans h3, h4⟩)
     clear g0 g1 g2; go_wp2_with fail
     go_roundw
     case rel => exact ⟨(i + j) / 2 + 1, j, by omega, by omega, by go_num, rfl, hb2, Hf'⟩
     case measure => simp [intOf]; omega
    ·have e1 : decide (c p < 0) = false := decide_eq_false hl
     have Hf' := Lib.hid (show ∃ f, I = bsC (kAt c ts) f i ((i + j) / 2) ∧ (i + j) / 2 - i ≤ f by
      obtain ⟨f, h1, h2⟩ := Hf.out; obtain ⟨f', h3, h4⟩ := bsC_right (c := kAt c ts) hlt h2 (by rw [Hk.out]; exact hl)
      exact ⟨f', h1.trans h3, h4⟩)
     clear g0 g1 g2; go_wp2_with fail
     go_roundw
     case rel => exact ⟨i, (i + j) / 2, by omega, by omega, rfl, by go_num, hb2, Hf'⟩
     case measure => simp [intOf]; omega
   ·obtain rfl : i = j := by omega
    have HI := Lib.hid (show I = i by
     obtain ⟨f, h1, _⟩ := Hf.out; rw [h1, bsC_end (by omega)])
    clear hlt hij; by_cases hin : i < n
    ·obtain ⟨p, hpt⟩ : ∃ p, ts[i]? = some p := ⟨_, List.getElem?_eq_getElem (by rw [Hn.out]; exact hin)⟩
     have Hk := Lib.hid (kAt_some (c := c) hpt); obtain ⟨h0, h1, h2⟩ := Hcell.out _ p hpt; have g0 := below_cell hb h0; have g1 := below_cell hb h1; have g2 := below_cell hb h2; clear hpt h0 h1 h2; go_wp2_with fail
     refine (Hc.out _ p hb).mono ?_; rintro e w' ⟨rfl, hb'⟩; have hb2 := below_step hb hb'; clear g0 g1 g2; by_cases hq : c p = 0
     ·have e1 : (c p == 0) = true := by simp [hq]
      have HR := Lib.hid (show R = true by rw [HBB.out, HI.out, Hk.out, hq]; simp [hin])
      clear hq; go_wp2_with fail
      go_ret2
      exact ⟨by rw [HI.out, HR.out]; rfl, hb2⟩
     ·have e1 : (c p == 0) = false := by simp [hq]
      have HR := Lib.hid (show R = false by rw [HBB.out, HI.out, Hk.out]; simp [hq])
      clear hq; go_wp2_with fail
      go_ret2
      exact ⟨by rw [HI.out, HR.out]; rfl, hb2⟩
    ·have HR := Lib.hid (show R = false by rw [HBB.out, HI.out]; simp [hin])
     go_wp2_with fail
     go_ret2
     exact ⟨by rw [HI.out, HR.out]; rfl, hb⟩
end Go.Proofs.YtddnnjblpgfjeaaGreatDoor
