/- Walks of what picks out the appearances of some players: slices.DeleteFunc and the closures handed to it. slices.IndexFunc and slices.DeleteFunc over appearances. How appearances are drawn. -/
import Derived.Test.YtmjkbmkjnbpgeaaGreatDoorBc
import Derived.Test.YtmjkbmkjnbpgeaaGreatDoorBb
import Derived.Test.YtmjkbmkjnbpgeaaGreatDoorIdx
import Derived.Deep.RegionHeld3
import Derived.Deep.RegionWith
import Derived.Test.YtmjkbmkjnbpgeaaGreatDoorBo
import Derived.Test.YtmjkbmkjnbpgeaaGreatDoorBa
import Derived.Test.YtmjkbmkjnbpgeaaGreatDoorBg
import Derived.Test.YtmjkbmkjnbpgeaaGreatDoorFxe
namespace Go.Proofs.YtmjkbmkjnbpgeaaGreatDoor
open Go.RowKit

/-- A slice of appearances. -/
def Aps (w : World) (lo : Nat) (v : Value) (ss : List SD) : Prop := Rows w 132 lo 3 v (ss.map stRow)

set_option maxRecDepth 100000 in
set_option maxHeartbeats 400000 in
theorem whoA_calls (a b c : Value) (w : World) :
    Calls Tryz.prog 118 #[.agg #[a, b, c]] w fun e w' => e = .returned a ∧ Below w.heap.size w w' := by
  go_enter Tryz.func118, Tryz.ntmps118
  go_wp2_with fail
  go_ret
  exact ⟨rfl, below_alloc w _⟩


set_option maxRecDepth 100000 in
set_option maxHeartbeats 1000000 in
theorem delA_calls (cp cw lo : Nat) (s : SD) (v : Value) (ps : List PD) (w : World) (hp : Plays w lo v ps) (h1 : w.cell? ⟨cp, 0, none⟩ = some v) (h2 : w.cell? ⟨cw, 0, none⟩ = some (.func (.func 118) #[] #[])) :
    Calls Tryz.prog 175 #[.agg #[.string s.player, .string s.club, .int .i64 s.week], .pointer (some ⟨cp, 0, none⟩), .pointer (some ⟨cw, 0, none⟩)] w (BoolBelow w) := by
  obtain ⟨a, c, rfl⟩ : ∃ a c, v = .slice a ps.length c := by
    rcases plays_at hp with ⟨rfl, rfl⟩ | ⟨g, off, cap, rfl, _⟩
    · exact ⟨none, 0, rfl⟩
    · exact ⟨_, _, rfl⟩
  obtain ⟨W1, hW1⟩ : ∃ W1, W1 = w.alloc (.cells #[.string s.player, .string s.club, .int .i64 s.week] 132) := ⟨_, rfl⟩
  have k1 : W1.cell? ⟨cp, 0, none⟩ = some (.slice a ps.length c) := by rw [hW1]; exact below_cell (below_alloc w _) h1
  have k2 : W1.cell? ⟨cw, 0, none⟩ = some (.func (.func 118) #[] #[]) := by rw [hW1]; exact below_cell (below_alloc w _) h2
  have k3 : W1.cell? ⟨w.heap.size, 0, none⟩ = some (.string s.player) := by rw [hW1, World.cell?_alloc_at _ _ _ _ rfl]; rfl
  have k4 : W1.cell? ⟨w.heap.size, 1, none⟩ = some (.string s.club) := by rw [hW1, World.cell?_alloc_at _ _ _ _ rfl]; rfl
  have k5 : W1.cell? ⟨w.heap.size, 2, none⟩ = some (.int .i64 s.week) := by rw [hW1, World.cell?_alloc_at _ _ _ _ rfl]; rfl
  have hp1 : Plays W1 lo (.slice a ps.length c) ps := by rw [hW1]; exact hp.below (below_alloc w _)
  have hbW : Below w.heap.size w W1 := by rw [hW1]; exact below_alloc w _
  have hS : ∀ w', Below W1.heap.size W1 w' → Below W1.heap.size W1 w' ∧ Plays w' lo (.slice a ps.length c) ps ∧ w'.cell? ⟨cp, 0, none⟩ = some (.slice a ps.length c) ∧ w'.cell? ⟨cw, 0, none⟩ = some (.func (.func 118) #[] #[]) ∧ w'.cell? ⟨w.heap.size, 0, none⟩ = some (.string s.player) ∧ w'.cell? ⟨w.heap.size, 1, none⟩ = some (.string s.club) ∧ w'.cell? ⟨w.heap.size, 2, none⟩ = some (.int .i64 s.week) := fun w' hb =>
    ⟨hb, hp1.below hb, below_cell hb k1, below_cell hb k2, below_cell hb k3, below_cell hb k4, below_cell hb k5⟩
  have HS := Lib.hid hS
  have hb0 := (Below.refl W1.heap.size W1).drew
  clear hp h1 h2 hS
  cases hh : hasP ps s.player
  · have Hh := Lib.hid hh
    clear hh
    go_enter Tryz.func175, Tryz.ntmps175
    go_wp2_with fail
    rw [← hW1]
    clear hW1
    go_region_held3 (fun w' => Below W1.heap.size W1 w' ∧ Plays w' lo (.slice a ps.length c) ps ∧ w'.cell? ⟨cp, 0, none⟩ = some (.slice a ps.length c) ∧ w'.cell? ⟨cw, 0, none⟩ = some (.func (.func 118) #[] #[]) ∧ w'.cell? ⟨w.heap.size, 0, none⟩ = some (.string s.player) ∧ w'.cell? ⟨w.heap.size, 1, none⟩ = some (.string s.club) ∧ w'.cell? ⟨w.heap.size, 2, none⟩ = some (.int .i64 s.week)) (exact HS.out _ (by assumption)) (first | (go_at_call 118; refine (whoA_calls _ _ _ _).mono ?_; rintro e w' ⟨rfl, hb⟩; have hbb := below_step (W0 := W1) (by assumption) hb; clear hb) | (go_at_call 83; refine (playerAt_no lo _ _ _ _ (HS.out _ (by assumption)).2.1 Hh.out).mono ?_; rintro e w' ⟨rfl, hb⟩; have hbb := below_step (W0 := W1) (by assumption) hb; clear hb))
    all_goals (go_wp2_with fail; go_ret; exact ⟨_, rfl, below_step hbW (by assumption)⟩)
  · have Hh := Lib.hid hh
    clear hh
    go_enter Tryz.func175, Tryz.ntmps175
    go_wp2_with fail
    rw [← hW1]
    clear hW1
    refine wp_region_held_drew (S := fun w' => Below W1.heap.size W1 w' ∧ Plays w' lo (.slice a ps.length c) ps ∧ w'.cell? ⟨cp, 0, none⟩ = some (.slice a ps.length c) ∧ w'.cell? ⟨cw, 0, none⟩ = some (.func (.func 118) #[] #[]) ∧ w'.cell? ⟨w.heap.size, 0, none⟩ = some (.string s.player) ∧ w'.cell? ⟨w.heap.size, 1, none⟩ = some (.string s.club) ∧ w'.cell? ⟨w.heap.size, 2, none⟩ = some (.int .i64 s.week)) (by kernel_rfl) ?_ (fun hHeld => ?_)
    · (exact HS.out _ (by assumption))
    refine take_at 0 5 (v := ?_) rfl rfl (by kernel_rfl) (by kernel_rfl) (by kernel_rfl) (fun _ _ _ h => h) (by rfl) ?y0 (by assumption) ?r0
    case y0 =>
      intro w hSw
      try dsimp only at hSw
      go_simp
      try with_reducible rfl
    simp only [List.set_cons_zero, List.set_cons_succ]
    refine take_at 1 6 (v := ?_) rfl rfl (by kernel_rfl) (by kernel_rfl) (by kernel_rfl) (fun _ _ _ h => h) (by rfl) ?y1 (by assumption) ?r1
    case y1 =>
      intro w hSw
      try dsimp only at hSw
      go_simp
      try with_reducible rfl
    simp only [List.set_cons_zero, List.set_cons_succ]
    refine take_at 2 7 (v := ?_) rfl rfl (by kernel_rfl) (by kernel_rfl) (by kernel_rfl) (fun _ _ _ h => h) (by rfl) ?y2 (by assumption) ?r2
    case y2 =>
      intro w hSw
      try dsimp only at hSw
      go_simp
      try with_reducible rfl
    simp only [List.set_cons_zero, List.set_cons_succ]
    refine run_at 3 rfl (by kernel_rfl) (by rfl) (fun K hK => ?_)
    go_simp
    refine (whoA_calls _ _ _ _).mono ?_
    rintro e w' ⟨rfl, hb⟩
    have hbb := below_step (W0 := W1) (by assumption) hb
    clear hb
    go_wp2_with fail
    refine hK.out _ _ ?_ (fun hHeld => ?_)
    · (exact HS.out _ (by assumption))
    clear hK K
    try simp only [Act.put, List.setIfInBounds_toArray, List.set_cons_zero, List.set_cons_succ]
    refine run_at 4 rfl (by kernel_rfl) (by rfl) (fun K hK => ?_)
    go_simp
    refine (playerAt_yes lo _ _ _ _ (HS.out _ (by assumption)).2.1 Hh.out).mono ?_
    rintro e w' ⟨r, rfl, hb⟩
    have hd : decide ((r : Int) < 0) = false := decide_eq_false (by omega)
    have hbb := below_step (W0 := W1) (by assumption) hb
    clear hb
    go_wp2_with fail
    refine hK.out _ _ ?_ (fun hHeld => ?_)
    · (exact HS.out _ (by assumption))
    clear hK K
    try simp only [Act.put, List.setIfInBounds_toArray, List.set_cons_zero, List.set_cons_succ]
    refine take_at 5 10 (v := ?_) rfl rfl (by kernel_rfl) (by kernel_rfl) (by kernel_rfl) (fun _ _ _ h => h) (by rfl) ?y5 (by assumption) ?r5
    case y5 =>
      intro w hSw
      try dsimp only at hSw
      go_simp
      try with_reducible rfl
    simp only [List.set_cons_zero, List.set_cons_succ]
    refine take_at 6 11 (v := ?_) rfl rfl (by kernel_rfl) (by kernel_rfl) (by kernel_rfl) (fun _ _ _ h => h) (by rfl) ?y6 (by assumption) ?r6
    case y6 =>
      intro w hSw
      try dsimp only at hSw
      go_simp
      try with_reducible rfl
    simp only [List.set_cons_zero, List.set_cons_succ]
    refine skip_at 7 12 rfl rfl (by kernel_rfl) (by kernel_rfl) (by kernel_rfl) (fun _ _ _ h => h) (by rfl) (by assumption) ?_
    simp only [List.set_cons_zero, List.set_cons_succ]
    refine skip_at 8 13 rfl rfl (by kernel_rfl) (by kernel_rfl) (by kernel_rfl) (fun _ _ _ h => h) (by rfl) (by assumption) ?_
    simp only [List.set_cons_zero, List.set_cons_succ]
    refine skip_at 9 14 rfl rfl (by kernel_rfl) (by kernel_rfl) (by kernel_rfl) (fun _ _ _ h => h) (by rfl) (by assumption) ?_
    simp only [List.set_cons_zero, List.set_cons_succ]
    refine skip_at 10 15 rfl rfl (by kernel_rfl) (by kernel_rfl) (by kernel_rfl) (fun _ _ _ h => h) (by rfl) (by assumption) ?_
    simp only [List.set_cons_zero, List.set_cons_succ]
    refine take_at 11 16 (v := ?_) rfl rfl (by kernel_rfl) (by kernel_rfl) (by kernel_rfl) (fun _ _ _ h => h) (by rfl) ?y11 (by assumption) ?r11
    case y11 =>
      intro w hSw
      try dsimp only at hSw
      go_simp
      try with_reducible rfl
    simp only [List.set_cons_zero, List.set_cons_succ]
    refine take_at 12 4 (v := ?_) rfl rfl (by kernel_rfl) (by kernel_rfl) (by kernel_rfl) (fun _ _ _ h => h) (by rfl) ?y12 (by assumption) ?r12
    case y12 =>
      intro w hSw
      try dsimp only at hSw
      go_simp
      try with_reducible rfl
    simp only [List.set_cons_zero, List.set_cons_succ]
    refine wpAnyH_done (by kernel_rfl) ?_ _
    all_goals (go_wp2_with fail; go_ret; exact ⟨_, rfl, below_step hbW (by assumption)⟩)
end Go.Proofs.YtmjkbmkjnbpgeaaGreatDoor
namespace Go.Proofs.YtmjkbmkjnbpgeaaGreatDoor
open Go.RowKit

theorem aps_at {w : World} {lo : Nat} {v : Value} {ss : List SD} (h : Aps w lo v ss) :
    (v = .slice none 0 0 ∧ ss = []) ∨ ∃ g off cap, v = .slice (some ⟨g, off, none⟩) ss.length cap ∧ lo ≤ g ∧ g < w.heap.size ∧ ss.length ≤ 1000000 ∧
      ∀ (i : Nat) (s : SD), ss[i]? = some s → w.cell? ⟨g, off + i * 3, none⟩ = some (.string s.player) ∧ w.cell? ⟨g, off + i * 3 + 1, none⟩ = some (.string s.club) ∧ w.cell? ⟨g, off + i * 3 + 2, none⟩ = some (.int .i64 s.week) := by
  rcases rows_at h with ⟨e1, e2⟩ | ⟨g, off, cap, e1, e2, e3, hc⟩
  · exact .inl ⟨e1, by simpa using e2⟩
  · refine .inr ⟨g, off, cap, by simpa using e1, e2, e3, by simpa using h.small, fun i s hs => ?_⟩
    have hr : (ss.map stRow)[i]?.getD [] = stRow s := by simp [hs]
    exact ⟨hc i 0 _ (by rw [hr]; rfl), hc i 1 _ (by rw [hr]; rfl), hc i 2 _ (by rw [hr]; rfl)⟩


abbrev delFnA (cp cw : Nat) : Value := .func (.func 175) #[] #[.pointer (some ⟨cp, 0, none⟩), .pointer (some ⟨cw, 0, none⟩)]

set_option maxRecDepth 100000 in
set_option maxHeartbeats 1000000 in
theorem indexA_calls (cp cw lo lo' : Nat) (v pv : Value) (ss : List SD) (ps : List PD) (w : World) (hv : Aps w lo v ss) (hp : Plays w lo' pv ps) (h1 : w.cell? ⟨cp, 0, none⟩ = some pv) (h2 : w.cell? ⟨cw, 0, none⟩ = some (.func (.func 118) #[] #[])) :
    Calls Tryz.prog 219 #[v, delFnA cp cw] w (IdxBelow ss.length w) := by
  rcases aps_at hv with ⟨rfl, rfl⟩ | ⟨g, off, cap, rfl, _, hg, hn, hcell⟩
  · clear hv hp h1 h2
    go_enter Tryz.func219, Tryz.ntmps219
    go_wp2
    refine wp_loop_rounds 1 ?_
    rw [rounds_succ]
    go_wp2
    go_ret
    exact ⟨.inl rfl, Below.refl _ _⟩
  · clear hv
    go_enter Tryz.func219, Tryz.ntmps219
    go_wp2_with fail
    go_loopw [8] (fun i wr => ∃ k : Nat, k ≤ ss.length ∧ i = .int .i64 k ∧ Below w.heap.size w wr) (fun i _ => ss.length - (intOf i).toNat)
    case atStart => exact ⟨0, Nat.zero_le _, rfl, Below.refl _ _⟩
    case round =>
      obtain ⟨k, hk, rfl, hb⟩ := hrel
      by_cases hlt : k < ss.length
      · obtain ⟨s, hs⟩ : ∃ s, ss[k]? = some s := ⟨ss[k], List.getElem?_eq_getElem hlt⟩
        obtain ⟨q0, q1, q2⟩ := hcell k s hs
        have g0 := below_cell hb q0
        have g1 := below_cell hb q1
        have g2 := below_cell hb q2
        have c1 := below_cell hb h1
        have c2 := below_cell hb h2
        have hp' := hp.below hb
        clear hs q0 q1 q2 hcell h1 h2 hp
        go_wp2_with fail
        refine (delA_calls cp cw lo' s pv ps _ hp' c1 c2).mono ?_
        rintro e w' ⟨b, rfl, hb'⟩
        have hb2 := hb.trans (hb'.mono hb.size)
        cases b
        · go_wp2_with fail
          go_roundw
          case rel => exact ⟨k + 1, by omega, by go_num, hb2⟩
          case measure => simp [intOf]; omega
        · go_wp2_with fail
          go_ret
          exact ⟨.inr ⟨k, hlt, rfl⟩, hb2⟩
      · obtain rfl : k = ss.length := by omega
        go_wp2_with fail
        go_ret
        exact ⟨.inl rfl, hb⟩

theorem zero_ap (w : World) : (zeroValue 132).run Tryz.prog w = .ok (.agg #[.string ⟨#[]⟩, .string ⟨#[]⟩, .int .i64 0]) w := by kernel_rfl
/-- What picking some appearances out answers: some appearances, no more; of old memory their block alone has changed. -/
def SomeAps (Q : SD → Prop) (lo n : Nat) (w : World) (row : Option Nat) (e : Ending) (w' : World) : Prop := ∃ v' ss', e = .returned v' ∧ Aps w' lo v' ss' ∧ ss'.length ≤ n ∧ w.grownBy w' row ∧ ∀ s ∈ ss', Q s

set_option maxRecDepth 100000 in
set_option maxHeartbeats 2000000 in
theorem deleteA_calls (Q : SD → Prop) (cp cw lo lo' g off cap : Nat) (pv : Value) (ss : List SD) (ps : List PD) (w : World) (hv : RowsAt w 132 g off 3 (ss.map stRow)) (hn : ss.length ≤ 1000000) (hcap : ss.length ≤ cap) (hl : lo ≤ g) (hp : Plays w lo' pv ps)
    (h1 : w.cell? ⟨cp, 0, none⟩ = some pv) (h2 : w.cell? ⟨cw, 0, none⟩ = some (.func (.func 118) #[] #[])) (n1 : cp ≠ g) (n2 : cw ≠ g) (hQ : ∀ s ∈ ss, Q s) :
    Calls Tryz.prog 174 #[.slice (some ⟨g, off, none⟩) ss.length cap, delFnA cp cw] w (SomeAps Q lo ss.length w (some g)) := by
  have HQ := Lib.hid hQ
  clear hQ
  have hS : Aps w lo (.slice (some ⟨g, off, none⟩) ss.length cap) ss := by
    have := hv.rows (cap := cap) (by simpa using hn) hl (by simpa using hcap)
    simpa [Aps] using this
  go_enter Tryz.func174, Tryz.ntmps174
  go_wp2_with fail
  refine (indexA_calls cp cw lo lo' _ pv ss ps w hS hp h1 h2).mono ?_
  rintro e w1 ⟨he, hb1⟩
  rcases he with rfl | ⟨i, hi, rfl⟩
  · clear h1 h2
    go_wp2_with fail
    go_ret
    exact ⟨_, ss, rfl, Rows.below hS hb1, Nat.le_refl _, gb_below hb1 _, HQ.out⟩
  · have hv1 := hv.below hb1
    have hp1 := hp.below hb1
    have c1 := below_cell hb1 h1
    have c2 := below_cell hb1 h2
    have hne : ((i : Int) == -1) = false := by rw [beq_eq_false_iff_ne]; omega
    clear hS h1 h2 hp hv
    go_wp2_with fail
    go_loopw [5, 6] (fun a b wr => ∃ (i j : Nat) (ss' : List SD), i < j ∧ j ≤ ss.length ∧ a = .int .i64 i ∧ b = .int .i64 j ∧ ss'.length = ss.length ∧ RowsAt wr 132 g off 3 (ss'.map stRow) ∧ w1.grownBy wr (some g) ∧ Hid (∀ s ∈ ss', Q s)) (fun _ b _ => ss.length - (intOf b).toNat)
    case atStart => exact ⟨i, i + 1, ss, by omega, by omega, rfl, by go_num, rfl, hv1, gb_refl _ _, Lib.hid HQ.out⟩
    case round =>
      obtain ⟨i, j, ss', hij, hj, rfl, rfl, hlen, hr, hgw, HQ'⟩ := hrel
      obtain ⟨curg, hcg⟩ := hv1.heap
      have hpr := hp1.row hgw hcg (by decide) (by decide)
      have k1 := gb_cell hgw c1 n1
      have k2 := gb_cell hgw c2 n2
      clear c1 c2 hp1 hv1 hcg
      by_cases hlt : j < ss.length
      · obtain ⟨s, hs⟩ : ∃ s, ss'[j]? = some s := ⟨ss'[j]'(by omega), List.getElem?_eq_getElem (by omega)⟩
        have hsr : (ss'.map stRow)[j]? = some (stRow s) := by simp [hs]
        have q0 := hr.cell hsr (show (stRow s)[0]? = some (.string s.player) from rfl)
        have q1 := hr.cell hsr (show (stRow s)[1]? = some (.string s.club) from rfl)
        have q2 := hr.cell hsr (show (stRow s)[2]? = some (.int .i64 s.week) from rfl)
        rw [Nat.add_zero] at q0
        have Hsm := Lib.hid (List.mem_of_getElem? hs)
        clear hs hsr
        go_wp2_with fail
        refine (delA_calls cp cw lo' s pv ps _ (hpr.below (below_alloc _ _)) (below_cell (below_alloc _ _) k1) (below_cell (below_alloc _ _) k2)).mono ?_
        rintro e w2 ⟨b, rfl, hb2⟩
        have hr2 := (hr.below (below_alloc wr _)).below hb2
        cases b
        · have d0 : w2.cell? ⟨wr.heap.size, 0, none⟩ = some (.string s.player) := below_cell hb2 (by rw [World.cell?_alloc_at _ _ _ _ rfl]; rfl)
          have d1 : w2.cell? ⟨wr.heap.size, 1, none⟩ = some (.string s.club) := below_cell hb2 (by rw [World.cell?_alloc_at _ _ _ _ rfl]; rfl)
          have d2 : w2.cell? ⟨wr.heap.size, 2, none⟩ = some (.int .i64 s.week) := below_cell hb2 (by rw [World.cell?_alloc_at _ _ _ _ rfl]; rfl)
          obtain ⟨si, hsi⟩ : ∃ s, ss'[i]? = some s := ⟨ss'[i]'(by omega), List.getElem?_eq_getElem (by omega)⟩
          have hsr : (ss'.map stRow)[i]? = some (stRow si) := by simp [hsi]
          have p0 := hr2.cell hsr (show (stRow si)[0]? = some (.string si.player) from rfl)
          have p1 := hr2.cell hsr (show (stRow si)[1]? = some (.string si.club) from rfl)
          have p2 := hr2.cell hsr (show (stRow si)[2]? = some (.int .i64 si.week) from rfl)
          rw [Nat.add_zero] at p0
          have f0 := hr2.free (off + i * 3)
          have f1 := hr2.free (off + i * 3 + 1)
          have f2 := hr2.free (off + i * 3 + 2)
          have Hsr := Lib.hid hsr
          have hgz : g ≠ wr.heap.size := by have := hr.lt; omega
          clear hsi hsr k1 k2 q0 q1 q2
          go_wp2_with fail
          go_roundw
          case rel =>
            have r3 := rows_set3 hr2 Hsr.out (.string s.player) (.string s.club) (.int .i64 s.week)
            refine ⟨i + 1, j + 1, ss'.set i s, by omega, by omega, by go_num, by go_num, by simpa using hlen, ?_, gb_trans hgw (gb_trans (gb_trans (gb_alloc wr _ _) (gb_below hb2 _)) (gb_trans (gb_setCell _ _ _ _) (gb_trans (gb_setCell _ _ _ _) (gb_setCell _ _ _ _)))), Lib.hid fun x hx => by
              rcases List.mem_or_eq_of_mem_set hx with hx | rfl
              · exact HQ'.out x hx
              · exact HQ'.out _ Hsm.out⟩
            rw [List.map_set]
            exact r3
          case measure => simp [intOf]; omega
        · go_wp2_with fail
          go_roundw
          case rel => exact ⟨i, j + 1, ss', by omega, by omega, rfl, by go_num, hlen, hr2, gb_trans hgw (gb_trans (gb_alloc wr _ _) (gb_below hb2 _)), HQ'⟩
          case measure => simp [intOf]; omega
      · obtain rfl : j = ss.length := by omega
        clear k1 k2 hpr
        obtain ⟨w4, hrun, hr4, hg4⟩ := run_clear_rows (P := Tryz.prog) (t := 73) (ty := 0) (sz := 3) (i := i) (n := ss.length - i) (cap := cap - i) Tryz.underlying73 zero_ap rfl (by simp [Value.cells, Value.oneCell']) hr (by simp; omega) (by decide)
        have Hr4 := Lib.hid hr4
        have Hg4 := Lib.hid hg4
        clear hr4 hg4 hr
        go_wp2_with fail
        go_ret
        refine ⟨_, ss'.take i, rfl, ?_, by simp; omega, gb_trans (gb_below hb1 _) (gb_trans hgw Hg4.out), fun x hx => HQ'.out x (List.mem_of_mem_take hx)⟩
        have h5 := Hr4.out.rows (lo := lo) (cap := cap) (by simp; omega) hl (by simp; omega)
        rw [← List.map_take] at h5
        have e : ((ss'.take i).map stRow).length = i := by simp; omega
        rw [e] at h5
        exact h5

set_option maxRecDepth 100000 in
set_option maxHeartbeats 1000000 in
theorem deleteANil_calls (cp cw lo' : Nat) (pv : Value) (ps : List PD) (w : World) (hp : Plays w lo' pv ps) (h1 : w.cell? ⟨cp, 0, none⟩ = some pv) (h2 : w.cell? ⟨cw, 0, none⟩ = some (.func (.func 118) #[] #[])) :
    Calls Tryz.prog 174 #[.slice none 0 0, delFnA cp cw] w fun e w' => e = .returned (.slice none 0 0) ∧ Below w.heap.size w w' := by
  have hS : Aps w 0 (.slice none 0 0) [] := ⟨by simp, by simp, .inl ⟨rfl, rfl⟩⟩
  go_enter Tryz.func174, Tryz.ntmps174
  go_wp2_with fail
  refine (indexA_calls cp cw 0 lo' _ pv [] ps w hS hp h1 h2).mono ?_
  rintro e w1 ⟨he, hb1⟩
  rcases he with rfl | ⟨i, hi, rfl⟩
  · clear h1 h2
    go_wp2_with fail
    go_ret
    exact ⟨rfl, hb1⟩
  · simp at hi




/-- Stints that the call made itself. -/
def OwnAp (w : World) (base : Nat) (v : Value) (ss : List SD) : Prop := w.ownsRow base 132 3 v ss.length (ss.map stRow).flatten

/-- What ofThese answers: some of the appearances. -/
def TheseAps (Q : SD → Prop) (lo n : Nat) (w : World) (e : Ending) (w' : World) : Prop := ∃ v' ss', e = .returned v' ∧ Aps w' lo v' ss' ∧ ss'.length ≤ n ∧ Below lo w w' ∧ ∀ s ∈ ss', Q s

set_option maxRecDepth 100000 in
set_option maxHeartbeats 1000000 in
theorem ofTheseA_calls (Q : SD → Prop) (lo lo' : Nat) (pv v : Value) (ss : List SD) (ps : List PD) (w : World) (hv : OwnAp w lo v ss) (hn : ss.length ≤ 1000000) (hl : lo ≤ w.heap.size) (hp : Plays w lo' pv ps) (hQ : ∀ s ∈ ss, Q s) :
    Calls Tryz.prog 117 #[pv, v, .func (.func 118) #[] #[]] w (TheseAps Q lo ss.length w) := by
  obtain ⟨pa, pc, rfl⟩ : ∃ a c, pv = .slice a ps.length c := by
    rcases plays_at hp with ⟨rfl, rfl⟩ | ⟨g, off, cap, rfl, _⟩
    · exact ⟨none, 0, rfl⟩
    · exact ⟨_, _, rfl⟩
  have HQ := Lib.hid hQ
  clear hQ
  rcases hv.2 with ⟨rfl, h0⟩ | ⟨g, cap, cur, rfl, _, hgh, hcap, _⟩
  · obtain rfl : ss = [] := List.eq_nil_of_length_eq_zero h0
    clear hv h0 hn
    go_enter Tryz.func117, Tryz.ntmps117
    go_wp2_with fail
    refine (deleteANil_calls w.heap.size (w.heap.size + 1) lo' _ ps _ (hp.below (below2 w _ _)) (two_cell0 w _ _ _ _) (two_cell1 w _ _ _ _)).mono ?_
    rintro e w1 ⟨rfl, hb⟩
    go_wp2_with fail
    go_ret
    exact ⟨_, [], rfl, ⟨by simp, by simp, .inl ⟨rfl, rfl⟩⟩, by simp, ((below2 w _ _).trans (hb.mono (by simp; omega))).mono hl, by simp⟩
  · obtain ⟨hr, hlg⟩ := RowsAt.of_owns (rows := ss.map stRow) (by rw [List.length_map]; exact hv) (by simp [stRow])
    have hgl := lt_of_heap hgh
    clear hv hgh
    go_enter Tryz.func117, Tryz.ntmps117
    go_wp2_with fail
    refine (deleteA_calls Q w.heap.size (w.heap.size + 1) lo lo' g 0 cap _ ss ps _ (hr.below (below2 w _ _)) hn hcap hlg (hp.below (below2 w _ _)) (two_cell0 w _ _ _ _) (two_cell1 w _ _ _ _) (by omega) (by omega) HQ.out).mono ?_
    rintro e w1 ⟨v', ss', rfl, hS, hle, hg1, hq⟩
    have HS := Lib.hid hS
    have Hq := Lib.hid hq
    clear hS hq hr hp
    go_wp2_with fail
    go_ret
    exact ⟨_, ss', rfl, HS.out, hle, (((below2 w _ _).mono hl).grown hg1 (by simp; omega) fun r hr => by cases hr; exact hlg), Hq.out⟩
end Go.Proofs.YtmjkbmkjnbpgeaaGreatDoor
namespace Go.Proofs.YtmjkbmkjnbpgeaaGreatDoor
open Go.RowKit

theorem info_ap : (Tryz.prog.info? 132).map (fun i => (i.zero, i.size, i.bytes)) = some (some (.agg #[.string ⟨#[]⟩, .string ⟨#[]⟩, .int .i64 0]), 3, 40) := by kernel_rfl
theorem own_ap_row {w w' : World} {base B : Nat} {v : Value} {ss : List SD} {cur : Array Value} {T : Nat} {fr : Nat × Nat} (h : OwnAp w base v ss) (hg : w.grownBy w' (some B)) (hB : w.heap[B]? = some (.cells cur T fr)) (h1 : T ≠ 132) : OwnAp w' base v ss :=
  World.ownsRow.kept h hg (by right; intro e; obtain ⟨_, cur', h⟩ := own_block h B e; rw [hB] at h; cases h; exact h1 rfl)
/-- The state of the inner round: the stream, the appearance's own block, the row so far. -/
structure ZS (w : World) (B X base : Nat) (out : Value) (fs : List SD) (f : SD) (n : Nat) (w' : World) : Prop where
  st : St w' B n
  x : w'.heap[X]? = some (.cells #[.string f.player, .string f.club, .int .i64 f.week] 132 (0, 0))
  own : OwnAp w' base out fs
  gb : w.grownBy w' (some B)
theorem ZS.mono {w : World} {B X base : Nat} {out : Value} {fs : List SD} {f : SD} {n m : Nat} {w' : World} (h : ZS w B X base out fs f n w') (hm : n ≤ m) : ZS w B X base out fs f m w' :=
  ⟨h.st.mono hm, h.x, h.own, h.gb⟩
theorem ZS.alloc {w : World} {B X base : Nat} {out : Value} {fs : List SD} {f : SD} {n : Nat} {w' : World} (h : ZS w B X base out fs f n w') (o : Obj) : ZS w B X base out fs f n (w'.alloc o) :=
  ⟨h.st.alloc o, (heap_alloc_old w' _ (lt_of_heap h.x)).trans h.x, World.ownsRow.alloc h.own o, gb_trans h.gb (gb_alloc w' o _)⟩
theorem ZS.step {w : World} {B X base : Nat} {out : Value} {fs : List SD} {f : SD} {n m : Nat} {w' w'' : World} (h : ZS w B X base out fs f n w') (hs : St w'' B m) (hg : w'.grownBy w'' (some B)) : ZS w B X base out fs f m w'' := by
  obtain ⟨cur, hB⟩ := st_cells h.st
  refine ⟨hs, (hg.block X (lt_of_heap h.x) ?_).trans h.x, own_ap_row h.own hg hB (by decide), gb_trans h.gb hg⟩
  intro e
  cases e
  have := h.x
  rw [hB] at this
  cases this
theorem ZS.cells {w : World} {B X base : Nat} {out : Value} {fs : List SD} {f : SD} {n : Nat} {w' : World} (h : ZS w B X base out fs f n w') :
    w'.cell? ⟨X, 0, none⟩ = some (.string f.player) ∧ w'.cell? ⟨X, 1, none⟩ = some (.string f.club) ∧ w'.cell? ⟨X, 2, none⟩ = some (.int .i64 f.week) ∧ ∀ o, w'.frozen? ⟨X, o, none⟩ = false := by
  refine ⟨?_, ?_, ?_, fun o => by simp [World.frozen?, h.x]⟩ <;> (rw [cell_of_row w' _ _ _ _ _ h.x]; rfl)
/-- Behind stores into the appearance's own block. -/
theorem ZS.put {w : World} {B X base : Nat} {out : Value} {fs : List SD} {f g : SD} {n : Nat} {w' w'' : World} (h : ZS w B X base out fs f n w') (hBw : B < w.heap.size) (hX : w.heap.size ≤ X) (hg : w'.grownBy w'' (some X)) (hn : w''.heap[X]? = some (.cells #[.string g.player, .string g.club, .int .i64 g.week] 132 (0, 0))) (ho : out.ownBlock ≠ some X) : ZS w B X base out fs g n w'' := by
  have hne : X ≠ B := by omega
  refine ⟨?_, hn, World.ownsRow.kept h.own hg (.inr ho), gb_then h.gb hg fun r hr => by cases hr; exact hX⟩
  obtain ⟨lv, k, h1, h2, h3⟩ := h.st
  refine ⟨lv, k, (hg.block B (lt_of_heap h1) (by intro e; cases e; exact hne rfl)).trans h1, h2, ?_⟩
  rcases h3 with h3 | ⟨b, off, len, cap, e, hb, hl, hx⟩
  · exact .inl h3
  · refine .inr ⟨b, off, len, cap, e, hb, hl, fun j hj => ?_⟩
    obtain ⟨x, hx'⟩ := hx j hj
    have hbX : b ≠ X := by omega
    exact ⟨x, (World.cell?_of_block (hg.block b (by have := lt_of_heap h1; omega) (by intro e; cases e; exact hbX rfl))).trans hx'⟩
def K_st : ByteArray := ⟨#[115, 116]⟩
def threeKeys : List ByteArray := [⟨#[97, 110, 110]⟩, ⟨#[98, 101, 97]⟩, ⟨#[99, 105, 100]⟩]
def threeSpots : List ByteArray := [⟨#[100, 102]⟩, ⟨#[103, 107]⟩, ⟨#[115, 116]⟩]
/-- Three strings lie in block b. -/
def ThreeAt (w : World) (b : Nat) (x y z : ByteArray) : Prop := w.heap[b]? = some (.cells #[.string x, .string y, .string z] 9 (0, 0))
theorem three_cell {w : World} {b j : Nat} {x y z : ByteArray} (h : ThreeAt w b x y z) (hj : j < 3) : ∃ k, k ∈ [x, y, z] ∧ w.cell? ⟨b, j, none⟩ = some (.string k) := by
  match j, hj with
  | 0, _ => exact ⟨x, by simp, by rw [cell_of_row w _ _ _ _ _ h]; rfl⟩
  | 1, _ => exact ⟨y, by simp, by rw [cell_of_row w _ _ _ _ _ h]; rfl⟩
  | 2, _ => exact ⟨z, by simp, by rw [cell_of_row w _ _ _ _ _ h]; rfl⟩
theorem ThreeAt.grow {w w' : World} {b : Nat} {x y z : ByteArray} {row : Option Nat} (h : ThreeAt w b x y z) (hg : w.grownBy w' row) (hne : row ≠ some b) : ThreeAt w' b x y z := (hg.block b (lt_of_heap h) fun e => hne e.symm).trans h
theorem ThreeAt.drawn {w w' : World} {b B : Nat} {x y z : ByteArray} (h : ThreeAt w b x y z) (hg : w.grownBy w' (some B)) (hne : b ≠ B) : ThreeAt w' b x y z := h.grow hg (by intro e; cases e; exact hne rfl)
theorem ThreeAt.alloc {w : World} {b : Nat} {x y z : ByteArray} (h : ThreeAt w b x y z) (o : Obj) : ThreeAt (w.alloc o) b x y z := h.grow (gb_alloc w o none) (by simp)
def SomeAp (lo : Nat) (w : World) (v : Value) : Prop := ∃ ss, Aps w lo v ss ∧ ss.length ≤ 27 ∧ ∀ s ∈ ss, OkS s
set_option maxRecDepth 100000 in
set_option maxHeartbeats 8000000 in
theorem appearsOf_calls (B N lo' : Nat) (pv : Value) (ps : List PD) (w : World) (hs : St w B N) (hN : N ≤ 3990000) (hp : Plays w lo' pv ps) :
    Calls Tryz.prog 45 #[.pointer (some ⟨B, 0, none⟩), pv] w (Made B (N + 300) (SomeAp w.heap.size) w) := by
  obtain ⟨i0, hi, hz0, hz1, hz2⟩ := info_parts info_ap
  obtain ⟨pa, pc, rfl⟩ := plays_shape hp
  have hBw := hs.lt
  have Hp := Lib.hid hp
  have Hs := Lib.hid hs
  clear hp
  go_enter Tryz.func45, Tryz.ntmps45
  go_wp2_with fail
  obtain ⟨W1, hW1⟩ : ∃ W1, W1 = w.alloc (.cells #[.string ⟨#[97, 110, 110]⟩, .string ⟨#[98, 101, 97]⟩, .string ⟨#[99, 105, 100]⟩] 9) := ⟨_, rfl⟩
  have h5 : ThreeAt W1 w.heap.size ⟨#[97, 110, 110]⟩ ⟨#[98, 101, 97]⟩ ⟨#[99, 105, 100]⟩ := by rw [hW1]; exact heap_alloc_new w _
  have hs1 : St W1 B N := by rw [hW1]; exact hs.alloc _
  have hgW : w.grownBy W1 (some B) := by rw [hW1]; exact gb_alloc w _ _
  have hbW : Below w.heap.size w W1 := by rw [hW1]; exact below_alloc w _
  have hWs : W1.heap.size = w.heap.size + 1 := by rw [hW1]; simp
  rw [← hW1]
  have HgW := Lib.hid hgW
  have HbW := Lib.hid hbW
  have HWs := Lib.hid hWs
  have H5 := Lib.hid h5
  have hBW1 : B < W1.heap.size := by omega
  clear hW1 h5 hgW hbW hWs hs
  go_loopw [5, 14] (fun out i wr => ∃ (j : Nat) (hs : List SD), j ≤ 3 ∧ i = .int .i64 j ∧ hs.length ≤ 9 * j ∧ Hid (∀ h ∈ hs, OkS h) ∧ OwnAp wr W1.heap.size out hs ∧ St wr B (N + 90 * j) ∧ W1.grownBy wr (some B)) (fun _ i _ => 3 - (intOf i).toNat)
  case atStart => exact ⟨0, [], by omega, rfl, by simp, Lib.hid (by simp), World.ownsRow_nil _ _ _ _, hs1.mono (by omega), gb_refl _ _⟩
  case round =>
    obtain ⟨j, fs, hj, rfl, hpl, Hfs, hown, hsr, hg⟩ := hrel
    clear hs1
    by_cases hlt : j < 3
    · have hk5 : ThreeAt wr w.heap.size ⟨#[97, 110, 110]⟩ ⟨#[98, 101, 97]⟩ ⟨#[99, 105, 100]⟩ := (hg.block w.heap.size (by have := HWs.out; omega) (by intro e; cases e; omega)).trans H5.out
      obtain ⟨kk, hkm, hcell⟩ := three_cell hk5 hlt
      have hk40 : kk.size ≤ 40 := small_of (ks := [⟨#[97, 110, 110]⟩, ⟨#[98, 101, 97]⟩, ⟨#[99, 105, 100]⟩]) (by decide) hkm
      clear hk5 hkm
      obtain ⟨Wm, hWm⟩ : ∃ Wm, Wm = wr.alloc (.cells #[.string ⟨#[100, 102]⟩, .string ⟨#[103, 107]⟩, .string ⟨#[115, 116]⟩] 9) := ⟨_, rfl⟩
      have hm5 : ThreeAt Wm wr.heap.size ⟨#[100, 102]⟩ ⟨#[103, 107]⟩ ⟨#[115, 116]⟩ := by rw [hWm]; exact heap_alloc_new wr _
      have hsm : St Wm B (N + 90 * j) := by rw [hWm]; exact hsr.alloc _
      have hgm : W1.grownBy Wm (some B) := by rw [hWm]; exact gb_trans hg (gb_alloc wr _ _)
      have hownm : OwnAp Wm W1.heap.size u5 fs := by rw [hWm]; exact World.ownsRow.alloc hown _
      have hWms : Wm.heap.size = wr.heap.size + 1 := by rw [hWm]; simp
      have hbB : wr.heap.size ≠ B := by have := hg.size; omega
      go_wp2_with fail
      rw [← hWm]
      obtain ⟨bm, hbm⟩ : ∃ bm, bm = wr.heap.size := ⟨_, rfl⟩
      rw [← hbm] at hm5 hbB ⊢
      clear hWm hWms hown hsr hg hcell hbm
      go_loopw [5, 20] (fun out i wq => ∃ (q : Nat) (hs : List SD), q ≤ 3 ∧ i = .int .i64 q ∧ hs.length ≤ 9 * j + 3 * q ∧ Hid (∀ h ∈ hs, OkS h) ∧ OwnAp wq W1.heap.size out hs ∧ St wq B (N + 90 * j + 30 * q) ∧ W1.grownBy wq (some B) ∧ ThreeAt wq bm ⟨#[100, 102]⟩ ⟨#[103, 107]⟩ ⟨#[115, 116]⟩) (fun _ i _ => 3 - (intOf i).toNat)
      case atStart => exact ⟨0, fs, by omega, rfl, by omega, Hfs, hownm, hsm.mono (by omega), hgm, hm5⟩
      case round =>
        obtain ⟨q, fq, hq, rfl, hpq, Hfq, hownq, hsq, hgq, h3q⟩ := hrel
        clear hsm hownm hgm hm5
        by_cases hltq : q < 3
        · obtain ⟨qq, hqm, hcell⟩ := three_cell h3q hltq
          have hq40 : qq.size ≤ 40 := small_of (ks := [⟨#[100, 102]⟩, ⟨#[103, 107]⟩, ⟨#[115, 116]⟩]) (by decide) hqm
          obtain ⟨curB, hB⟩ := st_cells hsq
          clear hqm
          go_wp2_with fail
          refine (range_calls B (N + 90 * j + 30 * q) 0 3 _ hsq (by omega) (by omega) (by omega) (by omega)).mono ?_
          rintro e w2 ⟨v, ⟨m, rfl, hm0, hm1⟩, rfl, hs2, hg2⟩
          have hown2 := own_ap_row hownq hg2 hB (by decide)
          have hg02 := gb_trans hgq hg2
          have h32 := h3q.drawn hg2 hbB
          clear hB hownq hsq hgq hg2 curB hcell h3q
          go_wp2_with fail
          go_loopw [5, 10, 26] (fun out wv i wp => ∃ (t : Nat) (fs' : List SD) (a : Int), i = .int .i64 t ∧ (t : Int) ≤ m ∧ wv = .int .i64 a ∧ 0 ≤ a ∧ a ≤ 2 * (t : Int) ∧ fs'.length ≤ 9 * j + 3 * q + t ∧ Hid (∀ h ∈ fs', OkS h) ∧ OwnAp wp W1.heap.size out fs' ∧ St wp B (N + 90 * j + 30 * q + 1 + 8 * t) ∧ W1.grownBy wp (some B) ∧ ThreeAt wp bm ⟨#[100, 102]⟩ ⟨#[103, 107]⟩ ⟨#[115, 116]⟩) (fun _ _ i _ => 3 - (intOf i).toNat)
          case atStart => exact ⟨0, fq, 0, rfl, by omega, rfl, by omega, by omega, by omega, Hfq, hown2, hs2.mono (by omega), hg02, h32⟩
          case round =>
            obtain ⟨t, fs', a, rfl, htm, rfl, ha0, ha1, hpl', Hfs', hown', hs', hg', h3'⟩ := hrel
            clear hown2 hs2 hg02 h32
            by_cases hlt2 : (t : Int) < m
            · obtain ⟨N1, hN1⟩ : ∃ N1, N1 = N + 90 * j + 30 * q + 1 + 8 * t := ⟨_, rfl⟩
              have HN1 := Lib.hid hN1
              have hN1' : N1 ≤ 3995000 := by omega
              rw [← hN1] at hs'
              clear hN1
              obtain ⟨curB, hB⟩ := st_cells hs'
              go_wp2_with fail
              refine (range_calls B N1 1 2 _ hs' (by omega) (by omega) (by omega) (by omega)).mono ?_
              rintro e w3 ⟨v, ⟨r, rfl, hr0, hr1⟩, rfl, hs3, hg3⟩
              have hown3 := own_ap_row hown' hg3 hB (by decide)
              have hg03 := gb_trans hg' hg3
              have hka : IntKind.i64.wrap (a + r) = a + r := IntWalk.i64_in _ (by omega)
              have h33 := h3'.drawn hg3 hbB
              clear hB hown' hg3 hs' hg' curB h3'
              obtain ⟨X, hX⟩ : ∃ X, X = w3.heap.size := ⟨_, rfl⟩
              have hXw : W1.heap.size ≤ X := by rw [hX]; exact hg03.size
              have hbX : bm ≠ X := by have := lt_of_heap h33; omega
              have hXs : ZS W1 B X W1.heap.size u5 fs' ⟨kk, qq, a + r⟩ (N1 + 1) (w3.alloc (.cells #[.string kk, .string qq, .int .i64 (a + r)] 132)) := by
                rw [hX]
                exact ⟨hs3.alloc _, heap_alloc_new w3 _, World.ownsRow.alloc hown3 _, gb_trans hg03 (gb_alloc w3 _ _)⟩
              have hoX : u5.ownBlock ≠ some X := by
                intro e
                obtain ⟨_, cur', h⟩ := own_block hown3 X e
                have := lt_of_heap h
                omega
              have hb3 : -1099511627776 ≤ a + r ∧ a + r ≤ 1099511627776 := by omega
              have h3X := h33.alloc (.cells #[.string kk, .string qq, .int .i64 (a + r)] 132)
              clear hs3 hown3 hg03 h33
              go_wp2_with fail
              rw [← hX]
              clear hX
              refine (flip_calls B (N1 + 1) 100 _ hXs.st (by omega) (by omega) (by omega)).mono ?_
              rintro e w4 ⟨v, ⟨b2, rfl⟩, rfl, hs4, hg4⟩
              have hX4 := hXs.step hs4 hg4
              have h34 := h3X.drawn hg4 hbB
              clear hXs hs4 hg4 h3X
              go_upto_if 37 with fail
              go_cut [37] from 28 to 55 (fun _ wc => ∃ f : SD, OkS f ∧ ZS W1 B X W1.heap.size u5 fs' f (N1 + 8) wc ∧ ThreeAt wc bm ⟨#[100, 102]⟩ ⟨#[103, 107]⟩ ⟨#[115, 116]⟩)
              case first =>
                cases b2
                · go_wp2_with fail
                  go_meet
                  case rel => exact ⟨_, ⟨hk40, hq40, hb3.1, hb3.2⟩, hX4.mono (by omega), h34⟩
                · have hX5 := hX4.alloc (.cells #[.string kk, .string ⟨#[122, 101, 100]⟩] 9)
                  have h35 := h34.alloc (.cells #[.string kk, .string ⟨#[122, 101, 100]⟩] 9)
                  have hS := strs_new w4 [kk, K_zed] (by simp)
                  have hSB := hX4.st.lt
                  clear hX4 h34
                  go_wp2_with fail
                  refine (some_calls B (N1 + 1 + 1) w4.heap.size _ [kk, K_zed] _ hX5.st (by omega) hS hSB (by simp)).mono ?_
                  rintro e w5 ⟨v, ⟨kX, rfl, hkX⟩, rfl, hs5, hg5⟩
                  have hkX40 : kX.size ≤ 40 := by
                    simp only [List.mem_cons, List.not_mem_nil, or_false] at hkX
                    rcases hkX with rfl | rfl
                    · exact hk40
                    · decide
                  replace hX5 := hX5.step hs5 hg5
                  replace h35 := h35.drawn hg5 hbB
                  clear hs5 hg5 hkX hS
                  have hSB5 : B < w5.heap.size := hX5.st.lt
                  replace hX5 := hX5.alloc (.cells #[.string qq, .string ⟨#[]⟩] 9)
                  replace h35 := h35.alloc (.cells #[.string qq, .string ⟨#[]⟩] 9)
                  have hS := strs_new w5 [qq, K_none] (by simp)
                  go_wp2_with fail
                  refine (some_calls B _ w5.heap.size _ [qq, K_none] _ hX5.st (by omega) hS hSB5 (by simp)).mono ?_
                  rintro e w6 ⟨v, ⟨qX, rfl, hqX⟩, rfl, hs5, hg5⟩
                  have hqX40 : qX.size ≤ 40 := by
                    simp only [List.mem_cons, List.not_mem_nil, or_false] at hqX
                    rcases hqX with rfl | rfl
                    · exact hq40
                    · decide
                  replace hX5 := hX5.step hs5 hg5
                  replace h35 := h35.drawn hg5 hbB
                  clear hs5 hg5 hqX hS
                  go_wp2_with fail
                  refine (odd_calls B _ 1 9 _ hX5.st (by omega) (by omega) (by omega) (by omega)).mono ?_
                  rintro e w7 ⟨v, ⟨na, rfl, hla, hua⟩, rfl, hs5, hg5⟩
                  replace hX5 := hX5.step hs5 hg5
                  replace h35 := h35.drawn hg5 hbB
                  clear hs5 hg5
                  obtain ⟨q0, q1, q2, qf⟩ := hX5.cells
                  dsimp only at q0 q1 q2
                  go_wp2_with fail
                  go_meet
                  case rel => exact ⟨⟨kX, qX, na⟩, ⟨hkX40, hqX40, hla, hua⟩, (hX5.put hBW1 hXw (gb_trans (gb_setCell _ _ _ _) (gb_trans (gb_setCell _ _ _ _) (gb_setCell _ _ _ _))) (by simp [World.setCell, Array.getElem?_modify, hX5.x]) hoX).mono (by omega), h35.grow (gb_trans (gb_setCell _ _ _ _) (gb_trans (gb_setCell _ _ _ _) (gb_setCell _ _ _ _))) (by intro e; cases e; exact hbX rfl)⟩
              case rest =>
                obtain ⟨f, hok, hXe, h3e⟩ := hcut
                clear hX4 h34
                obtain ⟨c0, c1, c2, cf⟩ := hXe.cells
                obtain ⟨fk, fa, fb⟩ := f
                dsimp only at c0 c1 c2
                have hXlt := lt_of_heap hXe.x
                go_wp2_with (at_builtin; refine wpList_append_own _ rfl _ _ 73 rfl W1.heap.size 132 i0 (.agg #[.string ⟨#[]⟩, .string ⟨#[]⟩, .int .i64 0]) 3 40 Tryz.underlying73 hi hz0 hz1 hz2 rfl (by decide) _ _ _ rfl (World.ownsRow.alloc hXe.own _) ⟨wc.heap.size, 0, none⟩ 1 1 [.string fk, .string fa, .int .i64 fb] rfl rfl ?c1 ?c2 ?c3 ?c4 ?c5 ?_)
                case c1 => exact cell_three_new _ _ _ _ _
                case c2 => simp [Value.oneCell']
                case c3 => unfold maxLen; omega
                case c4 => omega
                case c5 => simp; have := hXe.gb.size; omega
                intro v' w6 hown6 hgrow _
                have hs6 := ((hXe.st.alloc (.cells #[.string fk, .string fa, .int .i64 fb] 132)).grown hgrow fun r hr => by have := (own_block hXe.own r hr).1; omega)
                have hg6 := gb_then (gb_trans hXe.gb (gb_alloc wc (.cells #[.string fk, .string fa, .int .i64 fb] 132) _)) hgrow fun r hr => (own_block hXe.own r hr).1
                have h36 : ThreeAt w6 bm ⟨#[100, 102]⟩ ⟨#[103, 107]⟩ ⟨#[115, 116]⟩ := (h3e.alloc (.cells #[.string fk, .string fa, .int .i64 fb] 132)).grow hgrow fun e => by
                  obtain ⟨_, cur', h⟩ := own_block hXe.own bm e
                  have := h3e
                  unfold ThreeAt at this
                  rw [h] at this
                  cases this
                have hown6' : OwnAp w6 W1.heap.size v' (fs' ++ [⟨fk, fa, fb⟩]) := by unfold OwnAp; simpa [stRow] using hown6
                have Hfs6 : Hid (∀ h ∈ fs' ++ [⟨fk, fa, fb⟩], OkS h) := Lib.hid fun f hf => by
                  rcases List.mem_append.1 hf with h | h
                  · exact Hfs'.out f h
                  · obtain rfl := List.mem_singleton.1 h; exact hok
                have HN2 := HN1.out
                clear hown6 hgrow c0 c1 c2 cf hXe h3e
                go_wp2_with fail
                go_roundw
                case rel => exact ⟨t + 1, _, a + r, by go_num, by omega, by first | rfl | (rw [hka]), by omega, by omega, by simp; omega, Hfs6, hown6', hs6.mono (by omega), hg6, h36⟩
                case measure => simp [intOf]; omega
            · go_wp2_with fail
              go_roundw
              case rel => exact ⟨u5, _, _, _, .int .i64 ((q : Int) + 1), ⟨q + 1, by omega, rfl, fs', by omega, Hfs', hown', hs'.mono (by omega)⟩, rfl, rfl, rfl, rfl, rfl⟩
              case measure => simp [intOf]; omega
        · obtain rfl : q = 3 := by omega
          go_wp2_with fail
          go_roundw
          case rel => exact ⟨j + 1, fq, by omega, by go_num, by omega, Hfq, hownq, hsq.mono (by omega), hgq⟩
          case measure => simp [intOf]; omega
    · obtain rfl : j = 3 := by omega
      obtain ⟨curW, hBW⟩ := st_cells Hs.out
      have hpr := Hp.out.row (gb_trans HgW.out hg) hBW (by decide) (by decide)
      have C := Lib.hid (ofTheseA_calls OkS W1.heap.size lo' _ _ fs ps wr hown (by omega) hg.size hpr Hfs.out)
      obtain ⟨oa, oc, rfl⟩ := owns_shape hown
      clear hown hpr hBW
      go_wp2_with fail
      refine C.out.mono ?_
      rintro e w2 ⟨v', ss', rfl, hS, hle, hb, hq⟩
      have HS := Lib.hid hS
      have Hq := Lib.hid hq
      clear hS hq C
      go_wp2_with fail
      go_ret
      exact ⟨_, ⟨ss', HS.out.mono (by have := HWs.out; omega), by omega, Hq.out⟩, rfl, (hsr.lift fun k hk => hb.block k (by have := hg.size; omega)).mono (by omega), ⟨hb.os.trans (hg.os.trans HgW.out.os), hb.tape.trans (hg.tape.trans HgW.out.tape), hb.output.trans (hg.output.trans HgW.out.output), Nat.le_trans (gb_trans HgW.out hg).size hb.size, fun k hk hne => (hb.block k (by have := HWs.out; omega)).trans ((gb_trans HgW.out hg).block k hk hne)⟩⟩
end Go.Proofs.YtmjkbmkjnbpgeaaGreatDoor
