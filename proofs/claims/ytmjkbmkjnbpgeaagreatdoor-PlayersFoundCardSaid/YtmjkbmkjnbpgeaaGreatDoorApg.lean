/- SamePlayer, and slices.EqualFunc over players. -/
import Derived.Test.YtmjkbmkjnbpgeaaGreatDoorApf
namespace Go.Proofs.YtmjkbmkjnbpgeaaGreatDoor
open Go.RowKit

set_option maxRecDepth 100000 in
set_option maxHeartbeats 1000000 in
/-- Of two players that are one it says so. -/
theorem samePlayer_calls (lo lo' : Nat) (p : PD) (x y : Value) (w : World) (hx : Strs w lo x p.pos) (hy : Strs w lo' y p.pos) :
    Calls Tryz.prog 56 #[.agg #[.string p.key, .string p.name, x], .agg #[.string p.key, .string p.name, y]] w (BoolIs true w) := by
  obtain ⟨xa, xc, rfl⟩ := strs_shape' hx
  obtain ⟨ya, yc, rfl⟩ := strs_shape' hy
  have hb := below2 w (.cells #[.string p.key, .string p.name, .slice xa p.pos.length xc] 86) (.cells #[.string p.key, .string p.name, .slice ya p.pos.length yc] 86)
  have hn : p.pos.length ≤ 1000000 := by simpa using hx.small
  have C := Lib.hid (equal_calls lo lo' _ _ p.pos p.pos _ (hx.below hb) (hy.below hb) hn hn)
  have e1 : (p.key.toList == p.key.toList) = true := beqS_self p.key
  have e2 : (p.name.toList == p.name.toList) = true := beqS_self p.name
  have HB := Lib.hid hb
  clear hx hy hb
  go_enter Tryz.func56, Tryz.ntmps56
  go_wp2_with fail
  refine C.out.mono ?_
  rintro e w' ⟨rfl, hb'⟩
  simp only [decide_true]
  go_wp2_with fail
  go_ret
  exact ⟨rfl, below_step HB.out hb'⟩
set_option maxRecDepth 100000 in
set_option maxHeartbeats 2000000 in
/-- Of two rows of players that are one it says so. -/
theorem equalPs_calls (lo lo' : Nat) (v v' : Value) (ps : List PD) (w : World) (hv : Plays w lo v ps) (hv' : Plays w lo' v' ps) :
    Calls Tryz.prog 55 #[v, v', .func (.func 56) #[] #[]] w (BoolIs true w) := by
  have HV := Lib.hid hv
  have HV' := Lib.hid hv'
  rcases plays_at hv with ⟨rfl, rfl⟩ | ⟨g, off, cap, rfl, hlo, hg, hn, hcell⟩
  · obtain ⟨a', c', rfl⟩ := plays_shape hv'
    clear hv hv'
    go_enter Tryz.func55, Tryz.ntmps55
    go_wp2_with fail
    refine wp_loop_rounds 1 ?_
    rw [rounds_succ]
    go_wp2_with fail
    go_ret
    exact ⟨rfl, Below.refl _ _⟩
  rcases plays_at hv' with ⟨rfl, rfl⟩ | ⟨g', off', cap', rfl, hlo', hg', hn', hcell'⟩
  · skip
    clear hv hv' hcell
    go_enter Tryz.func55, Tryz.ntmps55
    go_wp2_with fail
    refine wp_loop_rounds 1 ?_
    rw [rounds_succ]
    go_wp2_with fail
    go_ret
    exact ⟨rfl, Below.refl _ _⟩
  have Hc := Lib.hid hcell
  have Hc' := Lib.hid hcell'
  clear hv hv' hcell hcell'
  go_enter Tryz.func55, Tryz.ntmps55
  go_wp2_with fail
  go_loopw [17] (fun i wr => ∃ k : Nat, k ≤ ps.length ∧ i = .int .i64 k ∧ Below w.heap.size w wr) (fun i _ => ps.length - (intOf i).toNat)
  case atStart => exact ⟨0, Nat.zero_le _, rfl, Below.refl _ _⟩
  case round =>
    obtain ⟨k, hk, rfl, hb⟩ := hrel
    by_cases hlt : k < ps.length
    · obtain ⟨p, hpk⟩ : ∃ p, ps[k]? = some p := ⟨ps[k], List.getElem?_eq_getElem hlt⟩
      obtain ⟨pv, h0, h1, h2, h3⟩ := Hc.out k p hpk
      obtain ⟨pv', h0', h1', h2', h3'⟩ := Hc'.out k p hpk
      obtain ⟨qa, qc, rfl⟩ := strs_shape' h3
      obtain ⟨qa', qc', rfl⟩ := strs_shape' h3'
      have hba := below_alloc wr (.cells #[.string p.key, .string p.name, .slice qa p.pos.length qc] 86)
      have g0 := below_cell hb h0
      have g1 := below_cell hb h1
      have g2 := below_cell hb h2
      have g0' := below_cell hba (below_cell hb h0')
      have g1' := below_cell hba (below_cell hb h1')
      have g2' := below_cell hba (below_cell hb h2')
      have hb2 := below2 wr (.cells #[.string p.key, .string p.name, .slice qa p.pos.length qc] 86) (.cells #[.string p.key, .string p.name, .slice qa' p.pos.length qc'] 86)
      have hbo := below_step hb hb2
      have C := Lib.hid (samePlayer_calls lo lo' p _ _ _ ((h3.below hb).below hb2) ((h3'.below hb).below hb2))
      clear h0 h1 h2 h3 h0' h1' h2' h3' hpk hba hb2
      go_wp2_with fail
      refine C.out.mono ?_
      rintro e w' ⟨rfl, hb'⟩
      go_wp2_with fail
      go_roundw
      case rel => exact ⟨k + 1, by omega, by go_num, below_step hbo hb'⟩
      case measure => simp [intOf]; omega
    · obtain rfl : k = ps.length := by omega
      go_wp2_with fail
      go_ret
      exact ⟨rfl, hb⟩
end Go.Proofs.YtmjkbmkjnbpgeaaGreatDoor
