/- Walks of what picks out the stints of some players: slices.DeleteFunc and the closures handed to it. slices.IndexFunc and slices.DeleteFunc over stints. Stints and StintsOf: how stints are drawn. -/
import Derived.Test.YtmjkbmkjnbpgeaaGreatDoorBb
import Derived.Test.YtmjkbmkjnbpgeaaGreatDoorIdx
import Derived.Deep.RegionHeld3
import Derived.Deep.RegionWith
import Derived.Test.YtmjkbmkjnbpgeaaGreatDoorBo
import Derived.Test.YtmjkbmkjnbpgeaaGreatDoorBa
import Derived.Deep.Cut
namespace Go.Proofs.YtmjkbmkjnbpgeaaGreatDoor
open Go.RowKit

/-- A stint. -/
structure SD where
  player : ByteArray
  club : ByteArray
  week : Int
def stRow (s : SD) : List Value := [.string s.player, .string s.club, .int .i64 s.week]
/-- A slice of stints. -/
def Sts (w : World) (lo : Nat) (v : Value) (ss : List SD) : Prop := Rows w 98 lo 3 v (ss.map stRow)
def K_zed : ByteArray := ⟨#[122, 101, 100]⟩

set_option maxRecDepth 100000 in
set_option maxHeartbeats 400000 in
theorem who_calls (a b c : Value) (w : World) :
    Calls Tryz.prog 70 #[.agg #[a, b, c]] w fun e w' => e = .returned a ∧ Below w.heap.size w w' := by
  go_enter Tryz.func70, Tryz.ntmps70
  go_wp2_with fail
  go_ret
  exact ⟨rfl, below_alloc w _⟩

theorem below_step {W0 a b : World} (h : Below W0.heap.size W0 a) (k : Below a.heap.size a b) : Below W0.heap.size W0 b := h.trans (k.mono h.size)
/-- A bool, and new memory alone. -/
def BoolBelow (w : World) (e : Ending) (w' : World) : Prop := ∃ b : Bool, e = .returned (.bool b) ∧ Below w.heap.size w w'

set_option maxRecDepth 100000 in
set_option maxHeartbeats 1000000 in
theorem del_calls (cp cw lo : Nat) (s : SD) (v : Value) (ps : List PD) (w : World) (hp : Plays w lo v ps) (h1 : w.cell? ⟨cp, 0, none⟩ = some v) (h2 : w.cell? ⟨cw, 0, none⟩ = some (.func (.func 70) #[] #[])) :
    Calls Tryz.prog 146 #[.agg #[.string s.player, .string s.club, .int .i64 s.week], .pointer (some ⟨cp, 0, none⟩), .pointer (some ⟨cw, 0, none⟩)] w (BoolBelow w) := by
  obtain ⟨a, c, rfl⟩ : ∃ a c, v = .slice a ps.length c := by
    rcases plays_at hp with ⟨rfl, rfl⟩ | ⟨g, off, cap, rfl, _⟩
    · exact ⟨none, 0, rfl⟩
    · exact ⟨_, _, rfl⟩
  obtain ⟨W1, hW1⟩ : ∃ W1, W1 = w.alloc (.cells #[.string s.player, .string s.club, .int .i64 s.week] 98) := ⟨_, rfl⟩
  have k1 : W1.cell? ⟨cp, 0, none⟩ = some (.slice a ps.length c) := by rw [hW1]; exact below_cell (below_alloc w _) h1
  have k2 : W1.cell? ⟨cw, 0, none⟩ = some (.func (.func 70) #[] #[]) := by rw [hW1]; exact below_cell (below_alloc w _) h2
  have k3 : W1.cell? ⟨w.heap.size, 0, none⟩ = some (.string s.player) := by rw [hW1, World.cell?_alloc_at _ _ _ _ rfl]; rfl
  have k4 : W1.cell? ⟨w.heap.size, 1, none⟩ = some (.string s.club) := by rw [hW1, World.cell?_alloc_at _ _ _ _ rfl]; rfl
  have k5 : W1.cell? ⟨w.heap.size, 2, none⟩ = some (.int .i64 s.week) := by rw [hW1, World.cell?_alloc_at _ _ _ _ rfl]; rfl
  have hp1 : Plays W1 lo (.slice a ps.length c) ps := by rw [hW1]; exact hp.below (below_alloc w _)
  have hbW : Below w.heap.size w W1 := by rw [hW1]; exact below_alloc w _
  have hS : ∀ w', Below W1.heap.size W1 w' → Below W1.heap.size W1 w' ∧ Plays w' lo (.slice a ps.length c) ps ∧ w'.cell? ⟨cp, 0, none⟩ = some (.slice a ps.length c) ∧ w'.cell? ⟨cw, 0, none⟩ = some (.func (.func 70) #[] #[]) ∧ w'.cell? ⟨w.heap.size, 0, none⟩ = some (.string s.player) ∧ w'.cell? ⟨w.heap.size, 1, none⟩ = some (.string s.club) ∧ w'.cell? ⟨w.heap.size, 2, none⟩ = some (.int .i64 s.week) := fun w' hb =>
    ⟨hb, hp1.below hb, below_cell hb k1, below_cell hb k2, below_cell hb k3, below_cell hb k4, below_cell hb k5⟩
  have HS := Lib.hid hS
  have hb0 := (Below.refl W1.heap.size W1).drew
  clear hp h1 h2 hS
  cases hh : hasP ps s.player
  · have Hh := Lib.hid hh
    clear hh
    go_enter Tryz.func146, Tryz.ntmps146
    go_wp2_with fail
    rw [← hW1]
    clear hW1
    go_region_held3 (fun w' => Below W1.heap.size W1 w' ∧ Plays w' lo (.slice a ps.length c) ps ∧ w'.cell? ⟨cp, 0, none⟩ = some (.slice a ps.length c) ∧ w'.cell? ⟨cw, 0, none⟩ = some (.func (.func 70) #[] #[]) ∧ w'.cell? ⟨w.heap.size, 0, none⟩ = some (.string s.player) ∧ w'.cell? ⟨w.heap.size, 1, none⟩ = some (.string s.club) ∧ w'.cell? ⟨w.heap.size, 2, none⟩ = some (.int .i64 s.week)) (exact HS.out _ (by assumption)) (first | (go_at_call 70; refine (who_calls _ _ _ _).mono ?_; rintro e w' ⟨rfl, hb⟩; have hbb := below_step (W0 := W1) (by assumption) hb; clear hb) | (go_at_call 83; refine (playerAt_no lo _ _ _ _ (HS.out _ (by assumption)).2.1 Hh.out).mono ?_; rintro e w' ⟨rfl, hb⟩; have hbb := below_step (W0 := W1) (by assumption) hb; clear hb))
    all_goals (go_wp2_with fail; go_ret; exact ⟨_, rfl, below_step hbW (by assumption)⟩)
  · have Hh := Lib.hid hh
    clear hh
    go_enter Tryz.func146, Tryz.ntmps146
    go_wp2_with fail
    rw [← hW1]
    clear hW1
    refine wp_region_held_drew (S := fun w' => Below W1.heap.size W1 w' ∧ Plays w' lo (.slice a ps.length c) ps ∧ w'.cell? ⟨cp, 0, none⟩ = some (.slice a ps.length c) ∧ w'.cell? ⟨cw, 0, none⟩ = some (.func (.func 70) #[] #[]) ∧ w'.cell? ⟨w.heap.size, 0, none⟩ = some (.string s.player) ∧ w'.cell? ⟨w.heap.size, 1, none⟩ = some (.string s.club) ∧ w'.cell? ⟨w.heap.size, 2, none⟩ = some (.int .i64 s.week)) (by kernel_rfl) ?_ (fun hHeld => ?_)
    · (exact HS.out _ (by assumption))
    refine take_at 0 5 (v := ?_) rfl rfl (by kernel_rfl) (by kernel_rfl) (by kernel_rfl) (fun _ _ _ h => h) (by rfl) ?y0 (by assumption) ?r0
    case y0 =>
      intro w hSw
      try dsimp only at hSw
      go_simp
      try with_reducible rfl
    simp only [List.set_cons_zero, List.set_cons_succ]
    refine take_at 1 6 (v := ?_) rfl rfl (by kernel_rfl) (by kernel_rfl) (by kernel_rfl) (fun _ _ _ h => h) (by rfl) ?y1 (by assumption) ?r1
    case y1 =>
      intro w hSw
      try dsimp only at hSw
      go_simp
      try with_reducible rfl
    simp only [List.set_cons_zero, List.set_cons_succ]
    refine take_at 2 7 (v := ?_) rfl rfl (by kernel_rfl) (by kernel_rfl) (by kernel_rfl) (fun _ _ _ h => h) (by rfl) ?y2 (by assumption) ?r2
    case y2 =>
      intro w hSw
      try dsimp only at hSw
      go_simp
      try with_reducible rfl
    simp only [List.set_cons_zero, List.set_cons_succ]
    refine run_at 3 rfl (by kernel_rfl) (by rfl) (fun K hK => ?_)
    go_simp
    refine (who_calls _ _ _ _).mono ?_
    rintro e w' ⟨rfl, hb⟩
    have hbb := below_step (W0 := W1) (by assumption) hb
    clear hb
    go_wp2_with fail
    refine hK.out _ _ ?_ (fun hHeld => ?_)
    · (exact HS.out _ (by assumption))
    clear hK K
    try simp only [Act.put, List.setIfInBounds_toArray, List.set_cons_zero, List.set_cons_succ]
    refine run_at 4 rfl (by kernel_rfl) (by rfl) (fun K hK => ?_)
    go_simp
    refine (playerAt_yes lo _ _ _ _ (HS.out _ (by assumption)).2.1 Hh.out).mono ?_
    rintro e w' ⟨r, rfl, hb⟩
    have hd : decide ((r : Int) < 0) = false := decide_eq_false (by omega)
    have hbb := below_step (W0 := W1) (by assumption) hb
    clear hb
    go_wp2_with fail
    refine hK.out _ _ ?_ (fun hHeld => ?_)
    · (exact HS.out _ (by assumption))
    clear hK K
    try simp only [Act.put, List.setIfInBounds_toArray, List.set_cons_zero, List.set_cons_succ]
    refine take_at 5 10 (v := ?_) rfl rfl (by kernel_rfl) (by kernel_rfl) (by kernel_rfl) (fun _ _ _ h => h) (by rfl) ?y5 (by assumption) ?r5
    case y5 =>
      intro w hSw
      try dsimp only at hSw
      go_simp
      try with_reducible rfl
    simp only [List.set_cons_zero, List.set_cons_succ]
    refine take_at 6 11 (v := ?_) rfl rfl (by kernel_rfl) (by kernel_rfl) (by kernel_rfl) (fun _ _ _ h => h) (by rfl) ?y6 (by assumption) ?r6
    case y6 =>
      intro w hSw
      try dsimp only at hSw
      go_simp
      try with_reducible rfl
    simp only [List.set_cons_zero, List.set_cons_succ]
    refine skip_at 7 12 rfl rfl (by kernel_rfl) (by kernel_rfl) (by kernel_rfl) (fun _ _ _ h => h) (by rfl) (by assumption) ?_
    simp only [List.set_cons_zero, List.set_cons_succ]
    refine skip_at 8 13 rfl rfl (by kernel_rfl) (by kernel_rfl) (by kernel_rfl) (fun _ _ _ h => h) (by rfl) (by assumption) ?_
    simp only [List.set_cons_zero, List.set_cons_succ]
    refine skip_at 9 14 rfl rfl (by kernel_rfl) (by kernel_rfl) (by kernel_rfl) (fun _ _ _ h => h) (by rfl) (by assumption) ?_
    simp only [List.set_cons_zero, List.set_cons_succ]
    refine skip_at 10 15 rfl rfl (by kernel_rfl) (by kernel_rfl) (by kernel_rfl) (fun _ _ _ h => h) (by rfl) (by assumption) ?_
    simp only [List.set_cons_zero, List.set_cons_succ]
    refine take_at 11 16 (v := ?_) rfl rfl (by kernel_rfl) (by kernel_rfl) (by kernel_rfl) (fun _ _ _ h => h) (by rfl) ?y11 (by assumption) ?r11
    case y11 =>
      intro w hSw
      try dsimp only at hSw
      go_simp
      try with_reducible rfl
    simp only [List.set_cons_zero, List.set_cons_succ]
    refine take_at 12 4 (v := ?_) rfl rfl (by kernel_rfl) (by kernel_rfl) (by kernel_rfl) (fun _ _ _ h => h) (by rfl) ?y12 (by assumption) ?r12
    case y12 =>
      intro w hSw
      try dsimp only at hSw
      go_simp
      try with_reducible rfl
    simp only [List.set_cons_zero, List.set_cons_succ]
    refine wpAnyH_done (by kernel_rfl) ?_ _
    all_goals (go_wp2_with fail; go_ret; exact ⟨_, rfl, below_step hbW (by assumption)⟩)
end Go.Proofs.YtmjkbmkjnbpgeaaGreatDoor
namespace Go.Proofs.YtmjkbmkjnbpgeaaGreatDoor
open Go.RowKit

theorem sts_at {w : World} {lo : Nat} {v : Value} {ss : List SD} (h : Sts w lo v ss) :
    (v = .slice none 0 0 ∧ ss = []) ∨ ∃ g off cap, v = .slice (some ⟨g, off, none⟩) ss.length cap ∧ lo ≤ g ∧ g < w.heap.size ∧ ss.length ≤ 1000000 ∧
      ∀ (i : Nat) (s : SD), ss[i]? = some s → w.cell? ⟨g, off + i * 3, none⟩ = some (.string s.player) ∧ w.cell? ⟨g, off + i * 3 + 1, none⟩ = some (.string s.club) ∧ w.cell? ⟨g, off + i * 3 + 2, none⟩ = some (.int .i64 s.week) := by
  rcases rows_at h with ⟨e1, e2⟩ | ⟨g, off, cap, e1, e2, e3, hc⟩
  · exact .inl ⟨e1, by simpa using e2⟩
  · refine .inr ⟨g, off, cap, by simpa using e1, e2, e3, by simpa using h.small, fun i s hs => ?_⟩
    have hr : (ss.map stRow)[i]?.getD [] = stRow s := by simp [hs]
    exact ⟨hc i 0 _ (by rw [hr]; rfl), hc i 1 _ (by rw [hr]; rfl), hc i 2 _ (by rw [hr]; rfl)⟩

/-- An index below n, or -1. -/
def IdxBelow (n : Nat) (w : World) (e : Ending) (w' : World) : Prop := (e = .returned (.int .i64 (-1)) ∨ ∃ i : Nat, i < n ∧ e = .returned (.int .i64 (i : Int))) ∧ Below w.heap.size w w'

abbrev delFn (cp cw : Nat) : Value := .func (.func 146) #[] #[.pointer (some ⟨cp, 0, none⟩), .pointer (some ⟨cw, 0, none⟩)]

set_option maxRecDepth 100000 in
set_option maxHeartbeats 1000000 in
theorem indexSt_calls (cp cw lo lo' : Nat) (v pv : Value) (ss : List SD) (ps : List PD) (w : World) (hv : Sts w lo v ss) (hp : Plays w lo' pv ps) (h1 : w.cell? ⟨cp, 0, none⟩ = some pv) (h2 : w.cell? ⟨cw, 0, none⟩ = some (.func (.func 70) #[] #[])) :
    Calls Tryz.prog 194 #[v, delFn cp cw] w (IdxBelow ss.length w) := by
  rcases sts_at hv with ⟨rfl, rfl⟩ | ⟨g, off, cap, rfl, _, hg, hn, hcell⟩
  · clear hv hp h1 h2
    go_enter Tryz.func194, Tryz.ntmps194
    go_wp2
    refine wp_loop_rounds 1 ?_
    rw [rounds_succ]
    go_wp2
    go_ret
    exact ⟨.inl rfl, Below.refl _ _⟩
  · clear hv
    go_enter Tryz.func194, Tryz.ntmps194
    go_wp2_with fail
    go_loopw [8] (fun i wr => ∃ k : Nat, k ≤ ss.length ∧ i = .int .i64 k ∧ Below w.heap.size w wr) (fun i _ => ss.length - (intOf i).toNat)
    case atStart => exact ⟨0, Nat.zero_le _, rfl, Below.refl _ _⟩
    case round =>
      obtain ⟨k, hk, rfl, hb⟩ := hrel
      by_cases hlt : k < ss.length
      · obtain ⟨s, hs⟩ : ∃ s, ss[k]? = some s := ⟨ss[k], List.getElem?_eq_getElem hlt⟩
        obtain ⟨q0, q1, q2⟩ := hcell k s hs
        have g0 := below_cell hb q0
        have g1 := below_cell hb q1
        have g2 := below_cell hb q2
        have c1 := below_cell hb h1
        have c2 := below_cell hb h2
        have hp' := hp.below hb
        clear hs q0 q1 q2 hcell h1 h2 hp
        go_wp2_with fail
        refine (del_calls cp cw lo' s pv ps _ hp' c1 c2).mono ?_
        rintro e w' ⟨b, rfl, hb'⟩
        have hb2 := hb.trans (hb'.mono hb.size)
        cases b
        · go_wp2_with fail
          go_roundw
          case rel => exact ⟨k + 1, by omega, by go_num, hb2⟩
          case measure => simp [intOf]; omega
        · go_wp2_with fail
          go_ret
          exact ⟨.inr ⟨k, hlt, rfl⟩, hb2⟩
      · obtain rfl : k = ss.length := by omega
        go_wp2_with fail
        go_ret
        exact ⟨.inl rfl, hb⟩

theorem zero_stint (w : World) : (zeroValue 98).run Tryz.prog w = .ok (.agg #[.string ⟨#[]⟩, .string ⟨#[]⟩, .int .i64 0]) w := by kernel_rfl
/-- What picking some stints out answers: some stints, no more; of old memory their block alone has changed. -/
def SomeSts (Q : SD → Prop) (lo n : Nat) (w : World) (row : Option Nat) (e : Ending) (w' : World) : Prop := ∃ v' ss', e = .returned v' ∧ Sts w' lo v' ss' ∧ ss'.length ≤ n ∧ w.grownBy w' row ∧ ∀ s ∈ ss', Q s

set_option maxRecDepth 100000 in
set_option maxHeartbeats 2000000 in
theorem deleteSt_calls (Q : SD → Prop) (cp cw lo lo' g off cap : Nat) (pv : Value) (ss : List SD) (ps : List PD) (w : World) (hv : RowsAt w 98 g off 3 (ss.map stRow)) (hn : ss.length ≤ 1000000) (hcap : ss.length ≤ cap) (hl : lo ≤ g) (hp : Plays w lo' pv ps)
    (h1 : w.cell? ⟨cp, 0, none⟩ = some pv) (h2 : w.cell? ⟨cw, 0, none⟩ = some (.func (.func 70) #[] #[])) (n1 : cp ≠ g) (n2 : cw ≠ g) (hQ : ∀ s ∈ ss, Q s) :
    Calls Tryz.prog 145 #[.slice (some ⟨g, off, none⟩) ss.length cap, delFn cp cw] w (SomeSts Q lo ss.length w (some g)) := by
  have HQ := Lib.hid hQ
  clear hQ
  have hS : Sts w lo (.slice (some ⟨g, off, none⟩) ss.length cap) ss := by
    have := hv.rows (cap := cap) (by simpa using hn) hl (by simpa using hcap)
    simpa [Sts] using this
  go_enter Tryz.func145, Tryz.ntmps145
  go_wp2_with fail
  refine (indexSt_calls cp cw lo lo' _ pv ss ps w hS hp h1 h2).mono ?_
  rintro e w1 ⟨he, hb1⟩
  rcases he with rfl | ⟨i, hi, rfl⟩
  · clear h1 h2
    go_wp2_with fail
    go_ret
    exact ⟨_, ss, rfl, Rows.below hS hb1, Nat.le_refl _, gb_below hb1 _, HQ.out⟩
  · have hv1 := hv.below hb1
    have hp1 := hp.below hb1
    have c1 := below_cell hb1 h1
    have c2 := below_cell hb1 h2
    have hne : ((i : Int) == -1) = false := by rw [beq_eq_false_iff_ne]; omega
    clear hS h1 h2 hp hv
    go_wp2_with fail
    go_loopw [5, 6] (fun a b wr => ∃ (i j : Nat) (ss' : List SD), i < j ∧ j ≤ ss.length ∧ a = .int .i64 i ∧ b = .int .i64 j ∧ ss'.length = ss.length ∧ RowsAt wr 98 g off 3 (ss'.map stRow) ∧ w1.grownBy wr (some g) ∧ Hid (∀ s ∈ ss', Q s)) (fun _ b _ => ss.length - (intOf b).toNat)
    case atStart => exact ⟨i, i + 1, ss, by omega, by omega, rfl, by go_num, rfl, hv1, gb_refl _ _, Lib.hid HQ.out⟩
    case round =>
      obtain ⟨i, j, ss', hij, hj, rfl, rfl, hlen, hr, hgw, HQ'⟩ := hrel
      obtain ⟨curg, hcg⟩ := hv1.heap
      have hpr := hp1.row hgw hcg (by decide) (by decide)
      have k1 := gb_cell hgw c1 n1
      have k2 := gb_cell hgw c2 n2
      clear c1 c2 hp1 hv1 hcg
      by_cases hlt : j < ss.length
      · obtain ⟨s, hs⟩ : ∃ s, ss'[j]? = some s := ⟨ss'[j]'(by omega), List.getElem?_eq_getElem (by omega)⟩
        have hsr : (ss'.map stRow)[j]? = some (stRow s) := by simp [hs]
        have q0 := hr.cell hsr (show (stRow s)[0]? = some (.string s.player) from rfl)
        have q1 := hr.cell hsr (show (stRow s)[1]? = some (.string s.club) from rfl)
        have q2 := hr.cell hsr (show (stRow s)[2]? = some (.int .i64 s.week) from rfl)
        rw [Nat.add_zero] at q0
        have Hsm := Lib.hid (List.mem_of_getElem? hs)
        clear hs hsr
        go_wp2_with fail
        refine (del_calls cp cw lo' s pv ps _ (hpr.below (below_alloc _ _)) (below_cell (below_alloc _ _) k1) (below_cell (below_alloc _ _) k2)).mono ?_
        rintro e w2 ⟨b, rfl, hb2⟩
        have hr2 := (hr.below (below_alloc wr _)).below hb2
        cases b
        · have d0 : w2.cell? ⟨wr.heap.size, 0, none⟩ = some (.string s.player) := below_cell hb2 (by rw [World.cell?_alloc_at _ _ _ _ rfl]; rfl)
          have d1 : w2.cell? ⟨wr.heap.size, 1, none⟩ = some (.string s.club) := below_cell hb2 (by rw [World.cell?_alloc_at _ _ _ _ rfl]; rfl)
          have d2 : w2.cell? ⟨wr.heap.size, 2, none⟩ = some (.int .i64 s.week) := below_cell hb2 (by rw [World.cell?_alloc_at _ _ _ _ rfl]; rfl)
          obtain ⟨si, hsi⟩ : ∃ s, ss'[i]? = some s := ⟨ss'[i]'(by omega), List.getElem?_eq_getElem (by omega)⟩
          have hsr : (ss'.map stRow)[i]? = some (stRow si) := by simp [hsi]
          have p0 := hr2.cell hsr (show (stRow si)[0]? = some (.string si.player) from rfl)
          have p1 := hr2.cell hsr (show (stRow si)[1]? = some (.string si.club) from rfl)
          have p2 := hr2.cell hsr (show (stRow si)[2]? = some (.int .i64 si.week) from rfl)
          rw [Nat.add_zero] at p0
          have f0 := hr2.free (off + i * 3)
          have f1 := hr2.free (off + i * 3 + 1)
          have f2 := hr2.free (off + i * 3 + 2)
          have Hsr := Lib.hid hsr
          have hgz : g ≠ wr.heap.size := by have := hr.lt; omega
          clear hsi hsr k1 k2 q0 q1 q2
          go_wp2_with fail
          go_roundw
          case rel =>
            have r3 := rows_set3 hr2 Hsr.out (.string s.player) (.string s.club) (.int .i64 s.week)
            refine ⟨i + 1, j + 1, ss'.set i s, by omega, by omega, by go_num, by go_num, by simpa using hlen, ?_, gb_trans hgw (gb_trans (gb_trans (gb_alloc wr _ _) (gb_below hb2 _)) (gb_trans (gb_setCell _ _ _ _) (gb_trans (gb_setCell _ _ _ _) (gb_setCell _ _ _ _)))), Lib.hid fun x hx => by
              rcases List.mem_or_eq_of_mem_set hx with hx | rfl
              · exact HQ'.out x hx
              · exact HQ'.out _ Hsm.out⟩
            rw [List.map_set]
            exact r3
          case measure => simp [intOf]; omega
        · go_wp2_with fail
          go_roundw
          case rel => exact ⟨i, j + 1, ss', by omega, by omega, rfl, by go_num, hlen, hr2, gb_trans hgw (gb_trans (gb_alloc wr _ _) (gb_below hb2 _)), HQ'⟩
          case measure => simp [intOf]; omega
      · obtain rfl : j = ss.length := by omega
        clear k1 k2 hpr
        obtain ⟨w4, hrun, hr4, hg4⟩ := run_clear_rows (P := Tryz.prog) (t := 28) (ty := 0) (sz := 3) (i := i) (n := ss.length - i) (cap := cap - i) Tryz.underlying28 zero_stint rfl (by simp [Value.cells, Value.oneCell']) hr (by simp; omega) (by decide)
        have Hr4 := Lib.hid hr4
        have Hg4 := Lib.hid hg4
        clear hr4 hg4 hr
        go_wp2_with fail
        go_ret
        refine ⟨_, ss'.take i, rfl, ?_, by simp; omega, gb_trans (gb_below hb1 _) (gb_trans hgw Hg4.out), fun x hx => HQ'.out x (List.mem_of_mem_take hx)⟩
        have h5 := Hr4.out.rows (lo := lo) (cap := cap) (by simp; omega) hl (by simp; omega)
        rw [← List.map_take] at h5
        have e : ((ss'.take i).map stRow).length = i := by simp; omega
        rw [e] at h5
        exact h5

set_option maxRecDepth 100000 in
set_option maxHeartbeats 1000000 in
theorem deleteNil_calls (cp cw lo' : Nat) (pv : Value) (ps : List PD) (w : World) (hp : Plays w lo' pv ps) (h1 : w.cell? ⟨cp, 0, none⟩ = some pv) (h2 : w.cell? ⟨cw, 0, none⟩ = some (.func (.func 70) #[] #[])) :
    Calls Tryz.prog 145 #[.slice none 0 0, delFn cp cw] w fun e w' => e = .returned (.slice none 0 0) ∧ Below w.heap.size w w' := by
  have hS : Sts w 0 (.slice none 0 0) [] := ⟨by simp, by simp, .inl ⟨rfl, rfl⟩⟩
  go_enter Tryz.func145, Tryz.ntmps145
  go_wp2_with fail
  refine (indexSt_calls cp cw 0 lo' _ pv [] ps w hS hp h1 h2).mono ?_
  rintro e w1 ⟨he, hb1⟩
  rcases he with rfl | ⟨i, hi, rfl⟩
  · clear h1 h2
    go_wp2_with fail
    go_ret
    exact ⟨rfl, hb1⟩
  · simp at hi

theorem below2 (w : World) (o o' : Obj) : Below w.heap.size w ((w.alloc o).alloc o') := ((Below.refl _ _).alloc (Nat.le_refl _) o).alloc (by simp) o'
theorem two_cell0 (w : World) (a b : Value) (t t' : TypeId) : ((w.alloc (.cells #[a] t)).alloc (.cells #[b] t')).cell? ⟨w.heap.size, 0, none⟩ = some a := by
  rw [World.cell?_alloc_past _ _ _ (by simp), World.cell?_alloc_at _ _ _ _ rfl]; rfl
theorem two_cell1 (w : World) (a b : Value) (t t' : TypeId) : ((w.alloc (.cells #[a] t)).alloc (.cells #[b] t')).cell? ⟨w.heap.size + 1, 0, none⟩ = some b := by
  rw [World.cell?_alloc_at _ _ _ _ (by simp)]; rfl
/-- Stints that the call made itself. -/
def OwnSt (w : World) (base : Nat) (v : Value) (ss : List SD) : Prop := w.ownsRow base 98 3 v ss.length (ss.map stRow).flatten

/-- What ofThese answers: some of the stints. -/
def TheseSts (Q : SD → Prop) (lo n : Nat) (w : World) (e : Ending) (w' : World) : Prop := ∃ v' ss', e = .returned v' ∧ Sts w' lo v' ss' ∧ ss'.length ≤ n ∧ Below lo w w' ∧ ∀ s ∈ ss', Q s

set_option maxRecDepth 100000 in
set_option maxHeartbeats 1000000 in
theorem ofThese_calls (Q : SD → Prop) (lo lo' : Nat) (pv v : Value) (ss : List SD) (ps : List PD) (w : World) (hv : OwnSt w lo v ss) (hn : ss.length ≤ 1000000) (hl : lo ≤ w.heap.size) (hp : Plays w lo' pv ps) (hQ : ∀ s ∈ ss, Q s) :
    Calls Tryz.prog 68 #[pv, v, .func (.func 70) #[] #[]] w (TheseSts Q lo ss.length w) := by
  obtain ⟨pa, pc, rfl⟩ : ∃ a c, pv = .slice a ps.length c := by
    rcases plays_at hp with ⟨rfl, rfl⟩ | ⟨g, off, cap, rfl, _⟩
    · exact ⟨none, 0, rfl⟩
    · exact ⟨_, _, rfl⟩
  have HQ := Lib.hid hQ
  clear hQ
  rcases hv.2 with ⟨rfl, h0⟩ | ⟨g, cap, cur, rfl, _, hgh, hcap, _⟩
  · obtain rfl : ss = [] := List.eq_nil_of_length_eq_zero h0
    clear hv h0 hn
    go_enter Tryz.func68, Tryz.ntmps68
    go_wp2_with fail
    refine (deleteNil_calls w.heap.size (w.heap.size + 1) lo' _ ps _ (hp.below (below2 w _ _)) (two_cell0 w _ _ _ _) (two_cell1 w _ _ _ _)).mono ?_
    rintro e w1 ⟨rfl, hb⟩
    go_wp2_with fail
    go_ret
    exact ⟨_, [], rfl, ⟨by simp, by simp, .inl ⟨rfl, rfl⟩⟩, by simp, ((below2 w _ _).trans (hb.mono (by simp; omega))).mono hl, by simp⟩
  · obtain ⟨hr, hlg⟩ := RowsAt.of_owns (rows := ss.map stRow) (by rw [List.length_map]; exact hv) (by simp [stRow])
    have hgl := lt_of_heap hgh
    clear hv hgh
    go_enter Tryz.func68, Tryz.ntmps68
    go_wp2_with fail
    refine (deleteSt_calls Q w.heap.size (w.heap.size + 1) lo lo' g 0 cap _ ss ps _ (hr.below (below2 w _ _)) hn hcap hlg (hp.below (below2 w _ _)) (two_cell0 w _ _ _ _) (two_cell1 w _ _ _ _) (by omega) (by omega) HQ.out).mono ?_
    rintro e w1 ⟨v', ss', rfl, hS, hle, hg1, hq⟩
    have HS := Lib.hid hS
    have Hq := Lib.hid hq
    clear hS hq hr hp
    go_wp2_with fail
    go_ret
    exact ⟨_, ss', rfl, HS.out, hle, (((below2 w _ _).mono hl).grown hg1 (by simp; omega) fun r hr => by cases hr; exact hlg), Hq.out⟩
end Go.Proofs.YtmjkbmkjnbpgeaaGreatDoor
namespace Go.Proofs.YtmjkbmkjnbpgeaaGreatDoor
open Go.RowKit

def C_red : ByteArray := ⟨#[114, 101, 100]⟩
def C_blue : ByteArray := ⟨#[98, 108, 117, 101]⟩
def C_R : ByteArray := ⟨#[82]⟩
def OkS (s : SD) : Prop := s.player.size ≤ 40 ∧ s.club.size ≤ 40 ∧ -1099511627776 ≤ s.week ∧ s.week ≤ 1099511627776
theorem small_of {ks : List ByteArray} (h : (ks.all fun k => decide (k.size ≤ 40)) = true) {k : ByteArray} (hk : k ∈ ks) : k.size ≤ 40 := by
  have := List.all_eq_true.1 h k hk
  simpa using this
theorem info_st : (Tryz.prog.info? 98).map (fun i => (i.zero, i.size, i.bytes)) = some (some (.agg #[.string ⟨#[]⟩, .string ⟨#[]⟩, .int .i64 0]), 3, 40) := by kernel_rfl
theorem own_st_row {w w' : World} {base B : Nat} {v : Value} {ss : List SD} {cur : Array Value} {T : Nat} {fr : Nat × Nat} (h : OwnSt w base v ss) (hg : w.grownBy w' (some B)) (hB : w.heap[B]? = some (.cells cur T fr)) (h1 : T ≠ 98) : OwnSt w' base v ss :=
  World.ownsRow.kept h hg (by right; intro e; obtain ⟨_, cur', h⟩ := own_block h B e; rw [hB] at h; cases h; exact h1 rfl)

theorem owns_mono {w : World} {base base' e size : Nat} {v : Value} {n : Nat} {xs : List Value} (h : w.ownsRow base e size v n xs) (hb : base' ≤ base) : w.ownsRow base' e size v n xs := by
  refine ⟨h.1, ?_⟩
  rcases h.2 with h | ⟨g, cap, cur, e, hg, rest⟩
  · exact .inl h
  · exact .inr ⟨g, cap, cur, e, Nat.le_trans hb hg, rest⟩
/-- The five keys lie in a block. -/
def FiveAt (w : World) (b : Nat) : Prop := w.heap[b]? = some (.cells #[.string K_ann, .string K_bea, .string K_cid, .string K_dan, .string K_eve] 9 (0, 0))
theorem five_cell {w : World} {b j : Nat} (h : FiveAt w b) (hj : j < 5) : ∃ k, k ∈ fiveKeys ∧ w.cell? ⟨b, j, none⟩ = some (.string k) := by
  rw [cell_of_row w _ _ _ _ _ h]
  match j, hj with
  | 0, _ => exact ⟨K_ann, by simp [fiveKeys], rfl⟩
  | 1, _ => exact ⟨K_bea, by simp [fiveKeys], rfl⟩
  | 2, _ => exact ⟨K_cid, by simp [fiveKeys], rfl⟩
  | 3, _ => exact ⟨K_dan, by simp [fiveKeys], rfl⟩
  | 4, _ => exact ⟨K_eve, by simp [fiveKeys], rfl⟩

def OwnSts (lo : Nat) (w : World) (v : Value) : Prop := ∃ ss, OwnSt w lo v ss ∧ ss.length ≤ 10 ∧ ∀ s ∈ ss, OkS s

set_option maxRecDepth 100000 in
set_option maxHeartbeats 2000000 in
theorem stints_calls (B N : Nat) (w : World) (hs : St w B N) (hN : N ≤ 3990000) :
    Calls Tryz.prog 69 #[.pointer (some ⟨B, 0, none⟩)] w (Made B (N + 100) (OwnSts w.heap.size) w) := by
  obtain ⟨i0, hi, hz0, hz1, hz2⟩ := info_parts info_st
  have hBw := hs.lt
  go_enter Tryz.func69, Tryz.ntmps69
  go_wp2_with fail
  go_loopw [3, 10] (fun out i wr => ∃ (j : Nat) (ss : List SD), j ≤ 5 ∧ i = .int .i64 j ∧ ss.length ≤ 2 * j ∧ Hid (∀ s ∈ ss, OkS s) ∧ OwnSt wr (w.heap.size + 1) out ss ∧ St wr B (N + 20 * j) ∧ w.grownBy wr (some B) ∧ FiveAt wr w.heap.size) (fun _ i _ => 5 - (intOf i).toNat)
  case atStart =>
    exact ⟨0, [], by omega, rfl, by simp, Lib.hid (by simp), World.ownsRow_nil _ _ _ _, hs.alloc _, gb_alloc w _ _, heap_alloc_new w _⟩
  case round =>
    obtain ⟨j, ss, hj, rfl, hpl, Hss, hown, hsr, hg, hk⟩ := hrel
    by_cases hlt : j < 5
    · obtain ⟨k, hkm, hcell⟩ := five_cell hk hlt
      have Hkm := Lib.hid hkm
      have hkw := lt_of_heap hk
      have Hk := Lib.hid hk
      clear hk hkm
      obtain ⟨curB, hB⟩ := st_cells hsr
      go_wp2_with fail
      refine (range_calls B (N + 20 * j) 1 2 wr hsr (by omega) (by omega) (by omega) (by omega)).mono ?_
      rintro e w1 ⟨v, ⟨wk, rfl, hw0, hw1⟩, rfl, hs1, hg1⟩
      have hown1 := own_st_row hown hg1 hB (by decide)
      obtain ⟨curB1, hB1⟩ := st_cells hs1
      clear hB hown
      go_wp2_with fail
      refine (range_calls B (N + 20 * j + 1) 0 2 w1 hs1 (by omega) (by omega) (by omega) (by omega)).mono ?_
      rintro e w2 ⟨v, ⟨m, rfl, hm0, hm1⟩, rfl, hs2, hg2⟩
      have hown2 := own_st_row hown1 hg2 hB1 (by decide)
      clear hB1 hown1
      have hg02 := gb_trans hg (gb_trans hg1 hg2)
      have hk2 : FiveAt w2 w.heap.size := ((gb_trans hg1 hg2).block _ hkw (by simp; omega)).trans Hk.out
      obtain ⟨wo, rfl⟩ : ∃ wo : World, wo = wr := ⟨_, rfl⟩
      go_wp2_with fail
      go_loopw [3, 6, 18] (fun out wv q wr => ∃ (t : Nat) (ss' : List SD) (wk' : Int), q = .int .i64 t ∧ (t : Int) ≤ m ∧ wv = .int .i64 wk' ∧ 1 ≤ wk' ∧ wk' ≤ 2 + 3 * (t : Int) ∧ ss'.length ≤ ss.length + t ∧ Hid (∀ s ∈ ss', OkS s) ∧ OwnSt wr (w.heap.size + 1) out ss' ∧ St wr B (N + 20 * j + 2 + 8 * t) ∧ w.grownBy wr (some B) ∧ Hid (FiveAt wr w.heap.size)) (fun _ _ q _ => 2 - (intOf q).toNat)
      case atStart => exact ⟨0, ss, wk, rfl, by omega, rfl, by omega, by omega, by omega, Hss, hown2, hs2.mono (by omega), hg02, Lib.hid hk2⟩
      case round =>
        obtain ⟨t, ss', wk', rfl, htm, rfl, hk0, hk1, hpl', Hss', hown', hs', hg', Hk'⟩ := hrel
        clear hown2 hs2 hg02 hk2 Hk hs1 hsr hg hg1 hg2
        by_cases hlt2 : (t : Int) < m
        · have hs5 := lt_of_heap Hk'.out
          obtain ⟨curB, hB⟩ := st_cells hs'
          go_wp2_with fail
          have hn := strs_new wr [C_red, C_blue, C_blue, K_none] (by decide)
          refine (some_calls B (N + 20 * j + 2 + 8 * t) wr.heap.size _ [C_red, C_blue, C_blue, K_none] _ (hs'.alloc _) (by omega) hn hs'.lt (by simp)).mono ?_
          rintro e w1 ⟨v, ⟨c, rfl, hc⟩, rfl, hs1, hg1⟩
          have hc40 := small_of (by decide) hc
          have hgo := gb_trans (gb_alloc wr (.cells ([C_red, C_blue, C_blue, K_none].map Value.string).toArray 9) (some B)) hg1
          have hown1 := own_st_row hown' hgo hB (by decide)
          have Hk1 := Lib.hid ((hgo.block _ hs5 (by simp; omega)).trans Hk'.out)
          obtain ⟨curB1, hB1⟩ := st_cells hs1
          clear hn hc hB
          go_wp2_with fail
          refine (flip_calls B (N + 20 * j + 2 + 8 * t + 1) 60 _ (hs1.alloc _) (by omega) (by omega) (by omega)).mono ?_
          rintro e w2 ⟨v, ⟨b, rfl⟩, rfl, hs2, hg2⟩
          have hgo2 := gb_trans (gb_alloc w1 (.cells #[.string k, .string c, .int .i64 wk'] 98) (some B)) hg2
          have hown2 := own_st_row hown1 hgo2 hB1 (by decide)
          cases b
          · have hw1B : w1.heap.size ≠ B := by have := hs1.lt; omega
            have d0 := gb_cell hg2 (show (w1.alloc (.cells #[.string k, .string c, .int .i64 wk'] 98)).cell? ⟨w1.heap.size, 0, none⟩ = some (.string k) by rw [World.cell?_alloc_at _ _ _ _ rfl]; rfl) hw1B
            have d1 := gb_cell hg2 (show (w1.alloc (.cells #[.string k, .string c, .int .i64 wk'] 98)).cell? ⟨w1.heap.size, 1, none⟩ = some (.string c) by rw [World.cell?_alloc_at _ _ _ _ rfl]; rfl) hw1B
            have d2 := gb_cell hg2 (show (w1.alloc (.cells #[.string k, .string c, .int .i64 wk'] 98)).cell? ⟨w1.heap.size, 2, none⟩ = some (.int .i64 wk') by rw [World.cell?_alloc_at _ _ _ _ rfl]; rfl) hw1B
            have hsX := hs2.mono (show _ ≤ N + 20 * j + 2 + 8 * t + 7 by omega)
            have hownX := hown2
            have hgX := gb_trans hg' (gb_trans hgo hgo2)
            have HkX := Lib.hid ((hgo2.block _ (lt_of_heap Hk1.out) (by simp; omega)).trans Hk1.out)
            have hokX : OkS ⟨k, c, wk'⟩ := ⟨small_of (ks := fiveKeys) (by decide) Hkm.out, hc40, by simp only; omega, by simp only; omega⟩
            clear hown1 hown2 hs1 hs2 hgo hgo2 hg1 hg2 hB1 Hk1 Hk' hown' hs' hg'
            -- the rest of the round, whatever the stint is
            have hx5 := lt_of_heap HkX.out
            obtain ⟨curX, hBX⟩ := st_cells hsX
            go_wp2_with (at_builtin; refine wpList_append_own _ rfl _ _ 28 rfl (w.heap.size + 1) 98 i0 (.agg #[.string ⟨#[]⟩, .string ⟨#[]⟩, .int .i64 0]) 3 40 Tryz.underlying28 hi hz0 hz1 hz2 rfl (by decide) _ _ _ rfl (World.ownsRow.alloc hownX _) ⟨w2.heap.size, 0, none⟩ 1 1 [.string k, .string c, .int .i64 wk'] rfl rfl ?c1 ?c2 ?c3 ?c4 ?c5 ?_)
            case c1 => exact cell_three_new _ _ _ _ _
            case c2 => simp [Value.oneCell']
            case c3 => unfold maxLen; omega
            case c4 => omega
            case c5 => simp; omega
            intro v' w4 hown4 hgrow _
            have hs4 := ((hsX.alloc (.cells #[.string k, .string c, .int .i64 wk'] 98)).grown hgrow fun r hr => by have := (own_block hownX r hr).1; omega)
            have hgX4 := gb_then (gb_trans hgX (gb_alloc w2 (.cells #[.string k, .string c, .int .i64 wk'] 98) _)) hgrow fun r hr => by have := (own_block hownX r hr).1; omega
            have Hk4 := Lib.hid ((hgrow.block _ (by simp; omega) fun e => by have := (own_block hownX _ e.symm).1; omega).trans ((heap_alloc_old w2 _ hx5).trans HkX.out))
            have hown4' : OwnSt w4 (w.heap.size + 1) v' (ss' ++ [⟨k, c, wk'⟩]) := by unfold OwnSt; simpa [stRow] using hown4
            obtain ⟨cur4, hB4⟩ := st_cells hs4
            have h45 := lt_of_heap Hk4.out
            have Hss4 : Hid (∀ s ∈ ss' ++ [⟨k, c, wk'⟩], OkS s) := Lib.hid fun s hs => by
              rcases List.mem_append.1 hs with h | h
              · exact Hss'.out s h
              · obtain rfl := List.mem_singleton.1 h; exact hokX
            clear hown4 hownX hsX hBX d0 d1 d2
            go_wp2_with fail
            refine (range_calls B (N + 20 * j + 2 + 8 * t + 7) 1 3 w4 (hs4.mono (by omega)) (by omega) (by omega) (by omega) (by omega)).mono ?_
            rintro e w5 ⟨v, ⟨dw, rfl, hdw0, hdw1⟩, rfl, hs5', hg5⟩
            have hown5 := own_st_row hown4' hg5 hB4 (by decide)
            have Hk5 := Lib.hid ((hg5.block _ h45 (by simp; omega)).trans Hk4.out)
            clear hown4' hB4
            go_wp2_with fail
            go_roundw
            case rel => exact ⟨t + 1, _, wk' + dw, by go_num, by omega, rfl, by omega, by omega, by simp; omega, Hss4, hown5, hs5'.mono (by omega), gb_trans hgX4 hg5, Hk5⟩
            case measure => simp [intOf]; omega
          · have hw1B : w1.heap.size ≠ B := by have := hs1.lt; omega
            have hk2' : FiveAt w2 w.heap.size := (hgo2.block _ (lt_of_heap Hk1.out) (by simp; omega)).trans Hk1.out
            have e0 := hg2.block w1.heap.size (by simp) (by simp; omega)
            rw [heap_alloc_new] at e0
            obtain ⟨curB2, hB2⟩ := st_cells hs2
            have hob : ∀ r, u3.ownBlock = some r → r < w1.heap.size := fun r hr => by obtain ⟨_, cur, h⟩ := own_block hown1 r hr; exact lt_of_heap h
            clear hown1
            have h10 := lt_of_heap e0
            go_wp2_with fail
            have hn := strs_new w2 [k, K_zed, K_ann] (by simp)
            refine (some_calls B (N + 20 * j + 2 + 8 * t + 2) w2.heap.size _ [k, K_zed, K_ann] _ (hs2.alloc _) (by omega) hn hs2.lt (by simp)).mono ?_
            rintro e w3 ⟨v, ⟨kX, rfl, hkX⟩, rfl, hs3, hg3⟩
            have hkX40 : kX.size ≤ 40 := by
              simp only [List.mem_cons, List.not_mem_nil, or_false] at hkX
              rcases hkX with rfl | rfl | rfl
              · exact small_of (ks := fiveKeys) (by decide) Hkm.out
              · decide
              · decide
            have hgo3 := gb_trans (gb_alloc w2 (.cells ([k, K_zed, K_ann].map Value.string).toArray 9) (some B)) hg3
            have hown3 := own_st_row hown2 hgo3 hB2 (by decide)
            have e3 := (hgo3.block _ h10 (by simp; omega)).trans e0
            obtain ⟨curB3, hB3⟩ := st_cells hs3
            clear hn hkX hown2 hB2
            go_wp2_with fail
            have hn := strs_new w3 [C_red, C_R] (by simp)
            refine (some_calls B (N + 20 * j + 2 + 8 * t + 3) w3.heap.size _ [C_red, C_R] _ (hs3.alloc _) (by omega) hn hs3.lt (by simp)).mono ?_
            rintro e w4 ⟨v, ⟨cX, rfl, hcX⟩, rfl, hs4, hg4⟩
            have hcX40 := small_of (by decide) hcX
            have hgo4 := gb_trans (gb_alloc w3 (.cells ([C_red, C_R].map Value.string).toArray 9) (some B)) hg4
            have hown4 := own_st_row hown3 hgo4 hB3 (by decide)
            have e4 := (hgo4.block _ (lt_of_heap e3) (by simp; omega)).trans e3
            obtain ⟨curB4, hB4⟩ := st_cells hs4
            clear hn hcX hown3 hB3
            go_wp2_with fail
            refine (odd_calls B (N + 20 * j + 2 + 8 * t + 4) 1 60 w4 hs4 (by omega) (by omega) (by omega) (by omega)).mono ?_
            rintro e w5 ⟨v, ⟨nX, rfl, hn0, hn1⟩, rfl, hs5', hg5⟩
            have hown5 := own_st_row hown4 hg5 hB4 (by decide)
            have e5 := (hg5.block _ (lt_of_heap e4) (by simp; omega)).trans e4
            have p0 : w5.cell? ⟨w1.heap.size, 0, none⟩ = some (.string k) := by rw [cell_of_row w5 _ _ _ _ _ e5]; rfl
            have p1 : w5.cell? ⟨w1.heap.size, 1, none⟩ = some (.string c) := by rw [cell_of_row w5 _ _ _ _ _ e5]; rfl
            have p2 : w5.cell? ⟨w1.heap.size, 2, none⟩ = some (.int .i64 wk') := by rw [cell_of_row w5 _ _ _ _ _ e5]; rfl
            have f0 : w5.frozen? ⟨w1.heap.size, 0, none⟩ = false := by simp [World.frozen?, e5]
            have f1 : w5.frozen? ⟨w1.heap.size, 1, none⟩ = false := by simp [World.frozen?, e5]
            have f2 : w5.frozen? ⟨w1.heap.size, 2, none⟩ = false := by simp [World.frozen?, e5]
            have hg05 := gb_trans hg' (gb_trans hgo (gb_trans hgo2 (gb_trans hgo3 (gb_trans hgo4 hg5))))
            have Hk5 := Lib.hid (((gb_trans hgo3 (gb_trans hgo4 hg5)).block _ (lt_of_heap hk2') (by simp; omega)).trans hk2')
            have h15 : w.heap.size + 1 ≤ w1.heap.size := by have := lt_of_heap Hk1.out; omega
            have E5 := Lib.hid e5
            clear hown4 hB4 e0 e3 e4 e5 hB1 Hk1 Hk' hown' hk2'
            go_upto_region 11 with fail
            obtain ⟨wX, hwX⟩ : ∃ wX, wX = ((w5.setCell ⟨w1.heap.size, 0, none⟩ (.string kX)).setCell ⟨w1.heap.size, 1, none⟩ (.string cX)).setCell ⟨w1.heap.size, 2, none⟩ (.int .i64 nX) := ⟨_, rfl⟩
            rw [← hwX]
            have hX : w5.grownBy wX (some w1.heap.size) := by rw [hwX]; exact gb_trans (gb_setCell _ _ _ _) (gb_trans (gb_setCell _ _ _ _) (gb_setCell _ _ _ _))
            have eX : wX.heap[w1.heap.size]? = some (.cells #[.string kX, .string cX, .int .i64 nX] 98 (0, 0)) := by rw [hwX]; simp [World.setCell, Array.getElem?_modify, E5.out]
            have d0 : wX.cell? ⟨w1.heap.size, 0, none⟩ = some (.string kX) := by rw [cell_of_row wX _ _ _ _ _ eX]; rfl
            have d1 : wX.cell? ⟨w1.heap.size, 1, none⟩ = some (.string cX) := by rw [cell_of_row wX _ _ _ _ _ eX]; rfl
            have d2 : wX.cell? ⟨w1.heap.size, 2, none⟩ = some (.int .i64 nX) := by rw [cell_of_row wX _ _ _ _ _ eX]; rfl
            have hsX : St wX B (N + 20 * j + 2 + 8 * t + 7) := (hs5'.grown hX fun r hr => by cases hr; omega).mono (by omega)
            have hownX : OwnSt wX (w.heap.size + 1) u3 ss' := World.ownsRow.kept hown5 hX (by right; intro e; have := hob _ e; omega)
            have hgX := gb_then hg05 hX fun r hr => by cases hr; omega
            have HkX := Lib.hid ((hX.block _ (lt_of_heap Hk5.out) (by simp; omega)).trans Hk5.out)
            have hokX : OkS ⟨kX, cX, nX⟩ := ⟨hkX40, hcX40, by simp only; omega, by simp only; omega⟩
            clear hwX hX eX E5 Hk5 hown5 hs5' hg05 p0 p1 p2 f0 f1 f2 hob
            clear hs1 hs2 hs3 hs4 hgo hgo2 hgo3 hgo4 hg1 hg2 hg3 hg4 hg5 hs' hg'
            -- the rest of the round, whatever the stint is
            have hx7 := lt_of_heap HkX.out
            obtain ⟨curX, hBX⟩ := st_cells hsX
            go_wp2_with (at_builtin; refine wpList_append_own _ rfl _ _ 28 rfl (w.heap.size + 1) 98 i0 (.agg #[.string ⟨#[]⟩, .string ⟨#[]⟩, .int .i64 0]) 3 40 Tryz.underlying28 hi hz0 hz1 hz2 rfl (by decide) _ _ _ rfl (World.ownsRow.alloc hownX _) ⟨wX.heap.size, 0, none⟩ 1 1 [.string kX, .string cX, .int .i64 nX] rfl rfl ?c1 ?c2 ?c3 ?c4 ?c5 ?_)
            case c1 => exact cell_three_new _ _ _ _ _
            case c2 => simp [Value.oneCell']
            case c3 => unfold maxLen; omega
            case c4 => omega
            case c5 => simp; omega
            intro v' w6 hown6 hgrow _
            have hs6 := ((hsX.alloc (.cells #[.string kX, .string cX, .int .i64 nX] 98)).grown hgrow fun r hr => by have := (own_block hownX r hr).1; omega)
            have hgX6 := gb_then (gb_trans hgX (gb_alloc wX (.cells #[.string kX, .string cX, .int .i64 nX] 98) _)) hgrow fun r hr => by have := (own_block hownX r hr).1; omega
            have Hk6 := Lib.hid ((hgrow.block _ (by simp; omega) fun e => by have := (own_block hownX _ e.symm).1; omega).trans ((heap_alloc_old wX _ hx7).trans HkX.out))
            have hown6' : OwnSt w6 (w.heap.size + 1) v' (ss' ++ [⟨kX, cX, nX⟩]) := by unfold OwnSt; simpa [stRow] using hown6
            obtain ⟨cur6, hB6⟩ := st_cells hs6
            have h65 := lt_of_heap Hk6.out
            have Hss6 : Hid (∀ s ∈ ss' ++ [⟨kX, cX, nX⟩], OkS s) := Lib.hid fun s hs => by
              rcases List.mem_append.1 hs with h | h
              · exact Hss'.out s h
              · obtain rfl := List.mem_singleton.1 h; exact hokX
            clear hown6 hownX hsX hBX d0 d1 d2
            go_wp2_with fail
            refine (range_calls B (N + 20 * j + 2 + 8 * t + 7) 1 3 w6 (hs6.mono (by omega)) (by omega) (by omega) (by omega) (by omega)).mono ?_
            rintro e w7 ⟨v, ⟨dw, rfl, hdw0, hdw1⟩, rfl, hs7', hg7⟩
            have hown7 := own_st_row hown6' hg7 hB6 (by decide)
            have Hk7 := Lib.hid ((hg7.block _ h65 (by simp; omega)).trans Hk6.out)
            clear hown6' hB6
            go_wp2_with fail
            go_roundw
            case rel => exact ⟨t + 1, _, wk' + dw, by go_num, by omega, rfl, by omega, by omega, by simp; omega, Hss6, hown7, hs7'.mono (by omega), gb_trans hgX6 hg7, Hk7⟩
            case measure => simp [intOf]; omega
        · have hS := Hk'.out
          clear hlt
          go_wp2_with fail
          go_roundw
          case rel => exact ⟨j + 1, ss', by omega, by go_num, by omega, Hss', hown', hs'.mono (by omega), hg', hS⟩
          case measure => simp [intOf]; omega
    · obtain rfl : j = 5 := by omega
      clear hk
      go_wp2_with fail
      go_ret
      exact ⟨_, ⟨ss, owns_mono hown (by omega), by omega, Hss.out⟩, rfl, hsr.mono (by omega), hg⟩

def SomeSt (lo : Nat) (w : World) (v : Value) : Prop := ∃ ss, Sts w lo v ss ∧ ss.length ≤ 10 ∧ ∀ s ∈ ss, OkS s

set_option maxRecDepth 100000 in
set_option maxHeartbeats 1000000 in
theorem stintsOf_calls (B N lo' : Nat) (pv : Value) (ps : List PD) (w : World) (hs : St w B N) (hN : N ≤ 3990000) (hp : Plays w lo' pv ps) :
    Calls Tryz.prog 9 #[.pointer (some ⟨B, 0, none⟩), pv] w (Made B (N + 100) (SomeSt w.heap.size) w) := by
  obtain ⟨pa, pc, rfl⟩ : ∃ a c, pv = .slice a ps.length c := by
    rcases plays_at hp with ⟨rfl, rfl⟩ | ⟨g, off, cap, rfl, _⟩
    · exact ⟨none, 0, rfl⟩
    · exact ⟨_, _, rfl⟩
  have hBw := hs.lt
  go_enter Tryz.func9, Tryz.ntmps9
  go_wp2_with fail
  refine (stints_calls B N w hs hN).mono ?_
  rintro e w1 ⟨v, ⟨ss, hown, hlen, hok⟩, rfl, hs1, hg1⟩
  obtain ⟨curB, hB⟩ := st_cells hs
  have hp1 := hp.row hg1 hB (by decide) (by decide)
  obtain ⟨a, c, rfl⟩ := owns_shape hown
  go_wp2_with fail
  refine (ofThese_calls OkS w.heap.size lo' _ _ ss ps w1 hown (by omega) hg1.size hp1 hok).mono ?_
  rintro e w2 ⟨v', ss', rfl, hS, hle, hb, hq⟩
  have HS := Lib.hid hS
  have Hq := Lib.hid hq
  clear hS hq hown hp hp1
  go_wp2_with fail
  go_ret
  exact ⟨_, ⟨ss', HS.out, by omega, Hq.out⟩, rfl, hs1.lift fun k hk => hb.block k (by omega), ⟨hb.os.trans hg1.os, hb.tape.trans hg1.tape, hb.output.trans hg1.output, Nat.le_trans hg1.size hb.size, fun k hk hne => (hb.block k hk).trans (hg1.block k hk hne)⟩⟩
end Go.Proofs.YtmjkbmkjnbpgeaaGreatDoor
