/- slices.IndexFunc and slices.DeleteFunc over stints. -/
import Derived.Test.YtiedmbgdmafhaaaGreatDoorDel
import Derived.Test.YtiedmbgdmafhaaaGreatDoorLibb
namespace Go.Proofs.YtiedmbgdmafhaaaGreatDoor
open Go.RowKit

theorem sts_at {w : World} {lo : Nat} {v : Value} {ss : List SD} (h : Sts w lo v ss) :
    (v = .slice none 0 0 ∧ ss = []) ∨ ∃ g off cap, v = .slice (some ⟨g, off, none⟩) ss.length cap ∧ lo ≤ g ∧ g < w.heap.size ∧ ss.length ≤ 1000000 ∧
      ∀ (i : Nat) (s : SD), ss[i]? = some s → w.cell? ⟨g, off + i * 3, none⟩ = some (.string s.player) ∧ w.cell? ⟨g, off + i * 3 + 1, none⟩ = some (.string s.club) ∧ w.cell? ⟨g, off + i * 3 + 2, none⟩ = some (.int .i64 s.week) := by
  rcases rows_at h with ⟨e1, e2⟩ | ⟨g, off, cap, e1, e2, e3, hc⟩
  · exact .inl ⟨e1, by simpa using e2⟩
  · refine .inr ⟨g, off, cap, by simpa using e1, e2, e3, by simpa using h.small, fun i s hs => ?_⟩
    have hr : (ss.map stRow)[i]?.getD [] = stRow s := by simp [hs]
    exact ⟨hc i 0 _ (by rw [hr]; rfl), hc i 1 _ (by rw [hr]; rfl), hc i 2 _ (by rw [hr]; rfl)⟩

/-- An index below n, or -1. -/
def IdxBelow (n : Nat) (w : World) (e : Ending) (w' : World) : Prop := (e = .returned (.int .i64 (-1)) ∨ ∃ i : Nat, i < n ∧ e = .returned (.int .i64 (i : Int))) ∧ Below w.heap.size w w'

abbrev delFn (cp cw : Nat) : Value := .func (.func 177) #[] #[.pointer (some ⟨cp, 0, none⟩), .pointer (some ⟨cw, 0, none⟩)]

set_option maxRecDepth 100000 in
set_option maxHeartbeats 1000000 in
theorem indexSt_calls (cp cw lo lo' : Nat) (v pv : Value) (ss : List SD) (ps : List PD) (w : World) (hv : Sts w lo v ss) (hp : Plays w lo' pv ps) (h1 : w.cell? ⟨cp, 0, none⟩ = some pv) (h2 : w.cell? ⟨cw, 0, none⟩ = some (.func (.func 80) #[] #[])) :
    Calls Tryz.prog 240 #[v, delFn cp cw] w (IdxBelow ss.length w) := by
  rcases sts_at hv with ⟨rfl, rfl⟩ | ⟨g, off, cap, rfl, _, hg, hn, hcell⟩
  · clear hv hp h1 h2
    go_enter Tryz.func240, Tryz.ntmps240
    go_wp2
    refine wp_loop_rounds 1 ?_
    rw [rounds_succ]
    go_wp2
    go_ret
    exact ⟨.inl rfl, Below.refl _ _⟩
  · clear hv
    go_enter Tryz.func240, Tryz.ntmps240
    go_wp2_with fail
    go_loopw [8] (fun i wr => ∃ k : Nat, k ≤ ss.length ∧ i = .int .i64 k ∧ Below w.heap.size w wr) (fun i _ => ss.length - (intOf i).toNat)
    case atStart => exact ⟨0, Nat.zero_le _, rfl, Below.refl _ _⟩
    case round =>
      obtain ⟨k, hk, rfl, hb⟩ := hrel
      by_cases hlt : k < ss.length
      · obtain ⟨s, hs⟩ : ∃ s, ss[k]? = some s := ⟨ss[k], List.getElem?_eq_getElem hlt⟩
        obtain ⟨q0, q1, q2⟩ := hcell k s hs
        have g0 := below_cell hb q0
        have g1 := below_cell hb q1
        have g2 := below_cell hb q2
        have c1 := below_cell hb h1
        have c2 := below_cell hb h2
        have hp' := hp.below hb
        clear hs q0 q1 q2 hcell h1 h2 hp
        go_wp2_with fail
        refine (del_calls cp cw lo' s pv ps _ hp' c1 c2).mono ?_
        rintro e w' ⟨b, rfl, hb'⟩
        have hb2 := hb.trans (hb'.mono hb.size)
        cases b
        · go_wp2_with fail
          go_roundw
          case rel => exact ⟨k + 1, by omega, by go_num, hb2⟩
          case measure => simp [intOf]; omega
        · go_wp2_with fail
          go_ret
          exact ⟨.inr ⟨k, hlt, rfl⟩, hb2⟩
      · obtain rfl : k = ss.length := by omega
        go_wp2_with fail
        go_ret
        exact ⟨.inl rfl, hb⟩

theorem zero_stint (w : World) : (zeroValue 110).run Tryz.prog w = .ok (.agg #[.string ⟨#[]⟩, .string ⟨#[]⟩, .int .i64 0]) w := by kernel_rfl
/-- What picking some stints out answers: some stints, no more; of old memory their block alone has changed. -/
def SomeSts (Q : SD → Prop) (lo n : Nat) (w : World) (row : Option Nat) (e : Ending) (w' : World) : Prop := ∃ v' ss', e = .returned v' ∧ Sts w' lo v' ss' ∧ ss'.length ≤ n ∧ w.grownBy w' row ∧ ∀ s ∈ ss', Q s

set_option maxRecDepth 100000 in
set_option maxHeartbeats 2000000 in
theorem deleteSt_calls (Q : SD → Prop) (cp cw lo lo' g off cap : Nat) (pv : Value) (ss : List SD) (ps : List PD) (w : World) (hv : RowsAt w 110 g off 3 (ss.map stRow)) (hn : ss.length ≤ 1000000) (hcap : ss.length ≤ cap) (hl : lo ≤ g) (hp : Plays w lo' pv ps)
    (h1 : w.cell? ⟨cp, 0, none⟩ = some pv) (h2 : w.cell? ⟨cw, 0, none⟩ = some (.func (.func 80) #[] #[])) (n1 : cp ≠ g) (n2 : cw ≠ g) (hQ : ∀ s ∈ ss, Q s) :
    Calls Tryz.prog 176 #[.slice (some ⟨g, off, none⟩) ss.length cap, delFn cp cw] w (SomeSts Q lo ss.length w (some g)) := by
  have HQ := Lib.hid hQ
  clear hQ
  have hS : Sts w lo (.slice (some ⟨g, off, none⟩) ss.length cap) ss := by
    have := hv.rows (cap := cap) (by simpa using hn) hl
    simpa [Sts] using this
  go_enter Tryz.func176, Tryz.ntmps176
  go_wp2_with fail
  refine (indexSt_calls cp cw lo lo' _ pv ss ps w hS hp h1 h2).mono ?_
  rintro e w1 ⟨he, hb1⟩
  rcases he with rfl | ⟨i, hi, rfl⟩
  · clear h1 h2
    go_wp2_with fail
    go_ret
    exact ⟨_, ss, rfl, Rows.below hS hb1, Nat.le_refl _, gb_below hb1 _, HQ.out⟩
  · have hv1 := hv.below hb1
    have hp1 := hp.below hb1
    have c1 := below_cell hb1 h1
    have c2 := below_cell hb1 h2
    have hne : ((i : Int) == -1) = false := by rw [beq_eq_false_iff_ne]; omega
    clear hS h1 h2 hp hv
    go_wp2_with fail
    go_loopw [5, 6] (fun a b wr => ∃ (i j : Nat) (ss' : List SD), i < j ∧ j ≤ ss.length ∧ a = .int .i64 i ∧ b = .int .i64 j ∧ ss'.length = ss.length ∧ RowsAt wr 110 g off 3 (ss'.map stRow) ∧ w1.grownBy wr (some g) ∧ Hid (∀ s ∈ ss', Q s)) (fun _ b _ => ss.length - (intOf b).toNat)
    case atStart => exact ⟨i, i + 1, ss, by omega, by omega, rfl, by go_num, rfl, hv1, gb_refl _ _, Lib.hid HQ.out⟩
    case round =>
      obtain ⟨i, j, ss', hij, hj, rfl, rfl, hlen, hr, hgw, HQ'⟩ := hrel
      obtain ⟨curg, hcg⟩ := hv1.heap
      have hpr := hp1.row hgw hcg (by decide) (by decide)
      have k1 := gb_cell hgw c1 n1
      have k2 := gb_cell hgw c2 n2
      clear c1 c2 hp1 hv1 hcg
      by_cases hlt : j < ss.length
      · obtain ⟨s, hs⟩ : ∃ s, ss'[j]? = some s := ⟨ss'[j]'(by omega), List.getElem?_eq_getElem (by omega)⟩
        have hsr : (ss'.map stRow)[j]? = some (stRow s) := by simp [hs]
        have q0 := hr.cell hsr (show (stRow s)[0]? = some (.string s.player) from rfl)
        have q1 := hr.cell hsr (show (stRow s)[1]? = some (.string s.club) from rfl)
        have q2 := hr.cell hsr (show (stRow s)[2]? = some (.int .i64 s.week) from rfl)
        rw [Nat.add_zero] at q0
        have Hsm := Lib.hid (List.mem_of_getElem? hs)
        clear hs hsr
        go_wp2_with fail
        refine (del_calls cp cw lo' s pv ps _ (hpr.below (below_alloc _ _)) (below_cell (below_alloc _ _) k1) (below_cell (below_alloc _ _) k2)).mono ?_
        rintro e w2 ⟨b, rfl, hb2⟩
        have hr2 := (hr.below (below_alloc wr _)).below hb2
        cases b
        · have d0 : w2.cell? ⟨wr.heap.size, 0, none⟩ = some (.string s.player) := below_cell hb2 (by rw [World.cell?_alloc_at _ _ _ _ rfl]; rfl)
          have d1 : w2.cell? ⟨wr.heap.size, 1, none⟩ = some (.string s.club) := below_cell hb2 (by rw [World.cell?_alloc_at _ _ _ _ rfl]; rfl)
          have d2 : w2.cell? ⟨wr.heap.size, 2, none⟩ = some (.int .i64 s.week) := below_cell hb2 (by rw [World.cell?_alloc_at _ _ _ _ rfl]; rfl)
          obtain ⟨si, hsi⟩ : ∃ s, ss'[i]? = some s := ⟨ss'[i]'(by omega), List.getElem?_eq_getElem (by omega)⟩
          have hsr : (ss'.map stRow)[i]? = some (stRow si) := by simp [hsi]
          have p0 := hr2.cell hsr (show (stRow si)[0]? = some (.string si.player) from rfl)
          have p1 := hr2.cell hsr (show (stRow si)[1]? = some (.string si.club) from rfl)
          have p2 := hr2.cell hsr (show (stRow si)[2]? = some (.int .i64 si.week) from rfl)
          rw [Nat.add_zero] at p0
          have f0 := hr2.free (off + i * 3)
          have f1 := hr2.free (off + i * 3 + 1)
          have f2 := hr2.free (off + i * 3 + 2)
          have Hsr := Lib.hid hsr
          have hgz : g ≠ wr.heap.size := by have := hr.lt; omega
          clear hsi hsr k1 k2 q0 q1 q2
          go_wp2_with fail
          go_roundw
          case rel =>
            have r3 := rows_set3 hr2 Hsr.out (.string s.player) (.string s.club) (.int .i64 s.week)
            refine ⟨i + 1, j + 1, ss'.set i s, by omega, by omega, by go_num, by go_num, by simpa using hlen, ?_, gb_trans hgw (gb_trans (gb_trans (gb_alloc wr _ _) (gb_below hb2 _)) (gb_trans (gb_setCell _ _ _ _) (gb_trans (gb_setCell _ _ _ _) (gb_setCell _ _ _ _)))), Lib.hid fun x hx => by
              rcases List.mem_or_eq_of_mem_set hx with hx | rfl
              · exact HQ'.out x hx
              · exact HQ'.out _ Hsm.out⟩
            rw [List.map_set]
            exact r3
          case measure => simp [intOf]; omega
        · go_wp2_with fail
          go_roundw
          case rel => exact ⟨i, j + 1, ss', by omega, by omega, rfl, by go_num, hlen, hr2, gb_trans hgw (gb_trans (gb_alloc wr _ _) (gb_below hb2 _)), HQ'⟩
          case measure => simp [intOf]; omega
      · obtain rfl : j = ss.length := by omega
        clear k1 k2 hpr
        obtain ⟨w4, hrun, hr4, hg4⟩ := run_clear_rows (P := Tryz.prog) (t := 28) (ty := 0) (sz := 3) (i := i) (n := ss.length - i) (cap := cap - i) Tryz.underlying28 zero_stint rfl (by simp [Value.cells, Value.oneCell']) hr (by simp; omega) (by decide)
        have Hr4 := Lib.hid hr4
        have Hg4 := Lib.hid hg4
        clear hr4 hg4 hr
        go_wp2_with fail
        go_ret
        refine ⟨_, ss'.take i, rfl, ?_, by simp; omega, gb_trans (gb_below hb1 _) (gb_trans hgw Hg4.out), fun x hx => HQ'.out x (List.mem_of_mem_take hx)⟩
        have h5 := Hr4.out.rows (lo := lo) (cap := cap) (by simp; omega) hl
        rw [← List.map_take] at h5
        have e : ((ss'.take i).map stRow).length = i := by simp; omega
        rw [e] at h5
        exact h5

set_option maxRecDepth 100000 in
set_option maxHeartbeats 1000000 in
theorem deleteNil_calls (cp cw lo' : Nat) (pv : Value) (ps : List PD) (w : World) (hp : Plays w lo' pv ps) (h1 : w.cell? ⟨cp, 0, none⟩ = some pv) (h2 : w.cell? ⟨cw, 0, none⟩ = some (.func (.func 80) #[] #[])) :
    Calls Tryz.prog 176 #[.slice none 0 0, delFn cp cw] w fun e w' => e = .returned (.slice none 0 0) ∧ Below w.heap.size w w' := by
  have hS : Sts w 0 (.slice none 0 0) [] := ⟨by simp, by simp, .inl ⟨rfl, rfl⟩⟩
  go_enter Tryz.func176, Tryz.ntmps176
  go_wp2_with fail
  refine (indexSt_calls cp cw 0 lo' _ pv [] ps w hS hp h1 h2).mono ?_
  rintro e w1 ⟨he, hb1⟩
  rcases he with rfl | ⟨i, hi, rfl⟩
  · clear h1 h2
    go_wp2_with fail
    go_ret
    exact ⟨rfl, hb1⟩
  · simp at hi

theorem below2 (w : World) (o o' : Obj) : Below w.heap.size w ((w.alloc o).alloc o') := ((Below.refl _ _).alloc (Nat.le_refl _) o).alloc (by simp) o'
theorem two_cell0 (w : World) (a b : Value) (t t' : TypeId) : ((w.alloc (.cells #[a] t)).alloc (.cells #[b] t')).cell? ⟨w.heap.size, 0, none⟩ = some a := by
  rw [World.cell?_alloc_past _ _ _ (by simp), World.cell?_alloc_at _ _ _ _ rfl]; rfl
theorem two_cell1 (w : World) (a b : Value) (t t' : TypeId) : ((w.alloc (.cells #[a] t)).alloc (.cells #[b] t')).cell? ⟨w.heap.size + 1, 0, none⟩ = some b := by
  rw [World.cell?_alloc_at _ _ _ _ (by simp)]; rfl
/-- Stints that the call made itself. -/
def OwnSt (w : World) (base : Nat) (v : Value) (ss : List SD) : Prop := w.ownsRow base 110 3 v ss.length (ss.map stRow).flatten

/-- What ofThese answers: some of the stints. -/
def TheseSts (Q : SD → Prop) (lo n : Nat) (w : World) (e : Ending) (w' : World) : Prop := ∃ v' ss', e = .returned v' ∧ Sts w' lo v' ss' ∧ ss'.length ≤ n ∧ Below lo w w' ∧ ∀ s ∈ ss', Q s

set_option maxRecDepth 100000 in
set_option maxHeartbeats 1000000 in
theorem ofThese_calls (Q : SD → Prop) (lo lo' : Nat) (pv v : Value) (ss : List SD) (ps : List PD) (w : World) (hv : OwnSt w lo v ss) (hn : ss.length ≤ 1000000) (hl : lo ≤ w.heap.size) (hp : Plays w lo' pv ps) (hQ : ∀ s ∈ ss, Q s) :
    Calls Tryz.prog 78 #[pv, v, .func (.func 80) #[] #[]] w (TheseSts Q lo ss.length w) := by
  obtain ⟨pa, pc, rfl⟩ : ∃ a c, pv = .slice a ps.length c := by
    rcases plays_at hp with ⟨rfl, rfl⟩ | ⟨g, off, cap, rfl, _⟩
    · exact ⟨none, 0, rfl⟩
    · exact ⟨_, _, rfl⟩
  have HQ := Lib.hid hQ
  clear hQ
  rcases hv.2 with ⟨rfl, h0⟩ | ⟨g, cap, cur, rfl, _, hgh, hcap, _⟩
  · obtain rfl : ss = [] := List.eq_nil_of_length_eq_zero h0
    clear hv h0 hn
    go_enter Tryz.func78, Tryz.ntmps78
    go_wp2_with fail
    refine (deleteNil_calls w.heap.size (w.heap.size + 1) lo' _ ps _ (hp.below (below2 w _ _)) (two_cell0 w _ _ _ _) (two_cell1 w _ _ _ _)).mono ?_
    rintro e w1 ⟨rfl, hb⟩
    go_wp2_with fail
    go_ret
    exact ⟨_, [], rfl, ⟨by simp, by simp, .inl ⟨rfl, rfl⟩⟩, by simp, ((below2 w _ _).trans (hb.mono (by simp; omega))).mono hl, by simp⟩
  · obtain ⟨hr, hlg⟩ := RowsAt.of_owns (rows := ss.map stRow) (by rw [List.length_map]; exact hv) (by simp [stRow])
    have hgl := lt_of_heap hgh
    clear hv hgh
    go_enter Tryz.func78, Tryz.ntmps78
    go_wp2_with fail
    refine (deleteSt_calls Q w.heap.size (w.heap.size + 1) lo lo' g 0 cap _ ss ps _ (hr.below (below2 w _ _)) hn hcap hlg (hp.below (below2 w _ _)) (two_cell0 w _ _ _ _) (two_cell1 w _ _ _ _) (by omega) (by omega) HQ.out).mono ?_
    rintro e w1 ⟨v', ss', rfl, hS, hle, hg1, hq⟩
    have HS := Lib.hid hS
    have Hq := Lib.hid hq
    clear hS hq hr hp
    go_wp2_with fail
    go_ret
    exact ⟨_, ss', rfl, HS.out, hle, (((below2 w _ _).mono hl).grown hg1 (by simp; omega) fun r hr => by cases hr; exact hlg), Hq.out⟩
end Go.Proofs.YtiedmbgdmafhaaaGreatDoor
