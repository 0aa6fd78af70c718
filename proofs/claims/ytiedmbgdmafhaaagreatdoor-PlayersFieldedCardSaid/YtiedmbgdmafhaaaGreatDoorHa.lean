/- Walks of what picks out the healths of some players: slices.DeleteFunc and the closures handed to it. slices.IndexFunc and slices.DeleteFunc over healths. How healths are drawn. -/
import Derived.Test.YtiedmbgdmafhaaaGreatDoorBc
import Derived.Test.YtiedmbgdmafhaaaGreatDoorBb
import Derived.Test.YtiedmbgdmafhaaaGreatDoorIdx
import Derived.Deep.RegionHeld3
import Derived.Deep.RegionWith
import Derived.Test.YtiedmbgdmafhaaaGreatDoorBo
import Derived.Test.YtiedmbgdmafhaaaGreatDoorFxd
import Derived.Test.YtiedmbgdmafhaaaGreatDoorBa
import Derived.Test.YtiedmbgdmafhaaaGreatDoorBg
import Derived.Test.YtiedmbgdmafhaaaGreatDoorFxe
namespace Go.Proofs.YtiedmbgdmafhaaaGreatDoor
open Go.RowKit

/-- How a player is. -/
structure HD where
  player : ByteArray
  start : Int
  stop : Int
  kind : Int
def hdRow (s : HD) : List Value := [.string s.player, .int .i64 s.start, .int .i64 s.stop, .int .i64 s.kind]
/-- A slice of healths. -/
def Hds (w : World) (lo : Nat) (v : Value) (ss : List HD) : Prop := Rows w 126 lo 4 v (ss.map hdRow)

set_option maxRecDepth 100000 in
set_option maxHeartbeats 400000 in
theorem whoH_calls (a b c d : Value) (w : World) :
    Calls Tryz.prog 104 #[.agg #[a, b, c, d]] w fun e w' => e = .returned a ∧ Below w.heap.size w w' := by
  go_enter Tryz.func104, Tryz.ntmps104
  go_wp2_with fail
  go_ret
  exact ⟨rfl, below_alloc w _⟩


set_option maxRecDepth 100000 in
set_option maxHeartbeats 1000000 in
theorem delH_calls (cp cw lo : Nat) (s : HD) (v : Value) (ps : List PD) (w : World) (hp : Plays w lo v ps) (h1 : w.cell? ⟨cp, 0, none⟩ = some v) (h2 : w.cell? ⟨cw, 0, none⟩ = some (.func (.func 104) #[] #[])) :
    Calls Tryz.prog 196 #[.agg #[.string s.player, .int .i64 s.start, .int .i64 s.stop, .int .i64 s.kind], .pointer (some ⟨cp, 0, none⟩), .pointer (some ⟨cw, 0, none⟩)] w (BoolBelow w) := by
  obtain ⟨a, c, rfl⟩ : ∃ a c, v = .slice a ps.length c := by
    rcases plays_at hp with ⟨rfl, rfl⟩ | ⟨g, off, cap, rfl, _⟩
    · exact ⟨none, 0, rfl⟩
    · exact ⟨_, _, rfl⟩
  obtain ⟨W1, hW1⟩ : ∃ W1, W1 = w.alloc (.cells #[.string s.player, .int .i64 s.start, .int .i64 s.stop, .int .i64 s.kind] 126) := ⟨_, rfl⟩
  have k1 : W1.cell? ⟨cp, 0, none⟩ = some (.slice a ps.length c) := by rw [hW1]; exact below_cell (below_alloc w _) h1
  have k2 : W1.cell? ⟨cw, 0, none⟩ = some (.func (.func 104) #[] #[]) := by rw [hW1]; exact below_cell (below_alloc w _) h2
  have k3 : W1.cell? ⟨w.heap.size, 0, none⟩ = some (.string s.player) := by rw [hW1, World.cell?_alloc_at _ _ _ _ rfl]; rfl
  have k4 : W1.cell? ⟨w.heap.size, 1, none⟩ = some (.int .i64 s.start) := by rw [hW1, World.cell?_alloc_at _ _ _ _ rfl]; rfl
  have k5 : W1.cell? ⟨w.heap.size, 2, none⟩ = some (.int .i64 s.stop) := by rw [hW1, World.cell?_alloc_at _ _ _ _ rfl]; rfl
  have k6 : W1.cell? ⟨w.heap.size, 3, none⟩ = some (.int .i64 s.kind) := by rw [hW1, World.cell?_alloc_at _ _ _ _ rfl]; rfl
  have hp1 : Plays W1 lo (.slice a ps.length c) ps := by rw [hW1]; exact hp.below (below_alloc w _)
  have hbW : Below w.heap.size w W1 := by rw [hW1]; exact below_alloc w _
  have hS : ∀ w', Below W1.heap.size W1 w' → Below W1.heap.size W1 w' ∧ Plays w' lo (.slice a ps.length c) ps ∧ w'.cell? ⟨cp, 0, none⟩ = some (.slice a ps.length c) ∧ w'.cell? ⟨cw, 0, none⟩ = some (.func (.func 104) #[] #[]) ∧ w'.cell? ⟨w.heap.size, 0, none⟩ = some (.string s.player) ∧ w'.cell? ⟨w.heap.size, 1, none⟩ = some (.int .i64 s.start) ∧ w'.cell? ⟨w.heap.size, 2, none⟩ = some (.int .i64 s.stop) ∧ w'.cell? ⟨w.heap.size, 3, none⟩ = some (.int .i64 s.kind) := fun w' hb =>
    ⟨hb, hp1.below hb, below_cell hb k1, below_cell hb k2, below_cell hb k3, below_cell hb k4, below_cell hb k5, below_cell hb k6⟩
  have HS := Lib.hid hS
  have hb0 := (Below.refl W1.heap.size W1).drew
  clear hp h1 h2 hS
  cases hh : hasP ps s.player
  · have Hh := Lib.hid hh
    clear hh
    go_enter Tryz.func196, Tryz.ntmps196
    go_wp2_with fail
    rw [← hW1]
    clear hW1
    go_region_held3 (fun w' => Below W1.heap.size W1 w' ∧ Plays w' lo (.slice a ps.length c) ps ∧ w'.cell? ⟨cp, 0, none⟩ = some (.slice a ps.length c) ∧ w'.cell? ⟨cw, 0, none⟩ = some (.func (.func 104) #[] #[]) ∧ w'.cell? ⟨w.heap.size, 0, none⟩ = some (.string s.player) ∧ w'.cell? ⟨w.heap.size, 1, none⟩ = some (.int .i64 s.start) ∧ w'.cell? ⟨w.heap.size, 2, none⟩ = some (.int .i64 s.stop) ∧ w'.cell? ⟨w.heap.size, 3, none⟩ = some (.int .i64 s.kind)) (exact HS.out _ (by assumption)) (first | (go_at_call 104; refine (whoH_calls _ _ _ _ _).mono ?_; rintro e w' ⟨rfl, hb⟩; have hbb := below_step (W0 := W1) (by assumption) hb; clear hb) | (go_at_call 93; refine (playerAt_no lo _ _ _ _ (HS.out _ (by assumption)).2.1 Hh.out).mono ?_; rintro e w' ⟨rfl, hb⟩; have hbb := below_step (W0 := W1) (by assumption) hb; clear hb))
    all_goals (go_wp2_with fail; go_ret; exact ⟨_, rfl, below_step hbW (by assumption)⟩)
  · have Hh := Lib.hid hh
    clear hh
    go_enter Tryz.func196, Tryz.ntmps196
    go_wp2_with fail
    rw [← hW1]
    clear hW1
    refine wp_region_held_drew (S := fun w' => Below W1.heap.size W1 w' ∧ Plays w' lo (.slice a ps.length c) ps ∧ w'.cell? ⟨cp, 0, none⟩ = some (.slice a ps.length c) ∧ w'.cell? ⟨cw, 0, none⟩ = some (.func (.func 104) #[] #[]) ∧ w'.cell? ⟨w.heap.size, 0, none⟩ = some (.string s.player) ∧ w'.cell? ⟨w.heap.size, 1, none⟩ = some (.int .i64 s.start) ∧ w'.cell? ⟨w.heap.size, 2, none⟩ = some (.int .i64 s.stop) ∧ w'.cell? ⟨w.heap.size, 3, none⟩ = some (.int .i64 s.kind)) (by kernel_rfl) ?_ (fun hHeld => ?_)
    · (exact HS.out _ (by assumption))
    refine take_at 0 5 (v := ?_) rfl rfl (by kernel_rfl) (by kernel_rfl) (by kernel_rfl) (fun _ _ _ h => h) (by rfl) ?y0 (by assumption) ?r0
    case y0 =>
      intro w hSw
      try dsimp only at hSw
      go_simp
      try with_reducible rfl
    simp only [List.set_cons_zero, List.set_cons_succ]
    refine take_at 1 6 (v := ?_) rfl rfl (by kernel_rfl) (by kernel_rfl) (by kernel_rfl) (fun _ _ _ h => h) (by rfl) ?y1 (by assumption) ?r1
    case y1 =>
      intro w hSw
      try dsimp only at hSw
      go_simp
      try with_reducible rfl
    simp only [List.set_cons_zero, List.set_cons_succ]
    refine take_at 2 7 (v := ?_) rfl rfl (by kernel_rfl) (by kernel_rfl) (by kernel_rfl) (fun _ _ _ h => h) (by rfl) ?y2 (by assumption) ?r2
    case y2 =>
      intro w hSw
      try dsimp only at hSw
      go_simp
      try with_reducible rfl
    simp only [List.set_cons_zero, List.set_cons_succ]
    refine run_at 3 rfl (by kernel_rfl) (by rfl) (fun K hK => ?_)
    go_simp
    refine (whoH_calls _ _ _ _ _).mono ?_
    rintro e w' ⟨rfl, hb⟩
    have hbb := below_step (W0 := W1) (by assumption) hb
    clear hb
    go_wp2_with fail
    refine hK.out _ _ ?_ (fun hHeld => ?_)
    · (exact HS.out _ (by assumption))
    clear hK K
    try simp only [Act.put, List.setIfInBounds_toArray, List.set_cons_zero, List.set_cons_succ]
    refine run_at 4 rfl (by kernel_rfl) (by rfl) (fun K hK => ?_)
    go_simp
    refine (playerAt_yes lo _ _ _ _ (HS.out _ (by assumption)).2.1 Hh.out).mono ?_
    rintro e w' ⟨r, rfl, hb⟩
    have hd : decide ((r : Int) < 0) = false := decide_eq_false (by omega)
    have hbb := below_step (W0 := W1) (by assumption) hb
    clear hb
    go_wp2_with fail
    refine hK.out _ _ ?_ (fun hHeld => ?_)
    · (exact HS.out _ (by assumption))
    clear hK K
    try simp only [Act.put, List.setIfInBounds_toArray, List.set_cons_zero, List.set_cons_succ]
    refine take_at 5 10 (v := ?_) rfl rfl (by kernel_rfl) (by kernel_rfl) (by kernel_rfl) (fun _ _ _ h => h) (by rfl) ?y5 (by assumption) ?r5
    case y5 =>
      intro w hSw
      try dsimp only at hSw
      go_simp
      try with_reducible rfl
    simp only [List.set_cons_zero, List.set_cons_succ]
    refine take_at 6 11 (v := ?_) rfl rfl (by kernel_rfl) (by kernel_rfl) (by kernel_rfl) (fun _ _ _ h => h) (by rfl) ?y6 (by assumption) ?r6
    case y6 =>
      intro w hSw
      try dsimp only at hSw
      go_simp
      try with_reducible rfl
    simp only [List.set_cons_zero, List.set_cons_succ]
    refine skip_at 7 12 rfl rfl (by kernel_rfl) (by kernel_rfl) (by kernel_rfl) (fun _ _ _ h => h) (by rfl) (by assumption) ?_
    simp only [List.set_cons_zero, List.set_cons_succ]
    refine skip_at 8 13 rfl rfl (by kernel_rfl) (by kernel_rfl) (by kernel_rfl) (fun _ _ _ h => h) (by rfl) (by assumption) ?_
    simp only [List.set_cons_zero, List.set_cons_succ]
    refine skip_at 9 14 rfl rfl (by kernel_rfl) (by kernel_rfl) (by kernel_rfl) (fun _ _ _ h => h) (by rfl) (by assumption) ?_
    simp only [List.set_cons_zero, List.set_cons_succ]
    refine skip_at 10 15 rfl rfl (by kernel_rfl) (by kernel_rfl) (by kernel_rfl) (fun _ _ _ h => h) (by rfl) (by assumption) ?_
    simp only [List.set_cons_zero, List.set_cons_succ]
    refine take_at 11 16 (v := ?_) rfl rfl (by kernel_rfl) (by kernel_rfl) (by kernel_rfl) (fun _ _ _ h => h) (by rfl) ?y11 (by assumption) ?r11
    case y11 =>
      intro w hSw
      try dsimp only at hSw
      go_simp
      try with_reducible rfl
    simp only [List.set_cons_zero, List.set_cons_succ]
    refine take_at 12 4 (v := ?_) rfl rfl (by kernel_rfl) (by kernel_rfl) (by kernel_rfl) (fun _ _ _ h => h) (by rfl) ?y12 (by assumption) ?r12
    case y12 =>
      intro w hSw
      try dsimp only at hSw
      go_simp
      try with_reducible rfl
    simp only [List.set_cons_zero, List.set_cons_succ]
    refine wpAnyH_done (by kernel_rfl) ?_ _
    all_goals (go_wp2_with fail; go_ret; exact ⟨_, rfl, below_step hbW (by assumption)⟩)
end Go.Proofs.YtiedmbgdmafhaaaGreatDoor
namespace Go.Proofs.YtiedmbgdmafhaaaGreatDoor
open Go.RowKit

theorem hds_at {w : World} {lo : Nat} {v : Value} {ss : List HD} (h : Hds w lo v ss) :
    (v = .slice none 0 0 ∧ ss = []) ∨ ∃ g off cap, v = .slice (some ⟨g, off, none⟩) ss.length cap ∧ lo ≤ g ∧ g < w.heap.size ∧ ss.length ≤ 1000000 ∧
      ∀ (i : Nat) (s : HD), ss[i]? = some s → w.cell? ⟨g, off + i * 4, none⟩ = some (.string s.player) ∧ w.cell? ⟨g, off + i * 4 + 1, none⟩ = some (.int .i64 s.start) ∧ w.cell? ⟨g, off + i * 4 + 2, none⟩ = some (.int .i64 s.stop) ∧ w.cell? ⟨g, off + i * 4 + 3, none⟩ = some (.int .i64 s.kind) := by
  rcases rows_at h with ⟨e1, e2⟩ | ⟨g, off, cap, e1, e2, e3, hc⟩
  · exact .inl ⟨e1, by simpa using e2⟩
  · refine .inr ⟨g, off, cap, by simpa using e1, e2, e3, by simpa using h.small, fun i s hs => ?_⟩
    have hr : (ss.map hdRow)[i]?.getD [] = hdRow s := by simp [hs]
    exact ⟨hc i 0 _ (by rw [hr]; rfl), hc i 1 _ (by rw [hr]; rfl), hc i 2 _ (by rw [hr]; rfl), hc i 3 _ (by rw [hr]; rfl)⟩


abbrev delFnH (cp cw : Nat) : Value := .func (.func 196) #[] #[.pointer (some ⟨cp, 0, none⟩), .pointer (some ⟨cw, 0, none⟩)]

set_option maxRecDepth 100000 in
set_option maxHeartbeats 1000000 in
theorem indexH_calls (cp cw lo lo' : Nat) (v pv : Value) (ss : List HD) (ps : List PD) (w : World) (hv : Hds w lo v ss) (hp : Plays w lo' pv ps) (h1 : w.cell? ⟨cp, 0, none⟩ = some pv) (h2 : w.cell? ⟨cw, 0, none⟩ = some (.func (.func 104) #[] #[])) :
    Calls Tryz.prog 250 #[v, delFnH cp cw] w (IdxBelow ss.length w) := by
  rcases hds_at hv with ⟨rfl, rfl⟩ | ⟨g, off, cap, rfl, _, hg, hn, hcell⟩
  · clear hv hp h1 h2
    go_enter Tryz.func250, Tryz.ntmps250
    go_wp2
    refine wp_loop_rounds 1 ?_
    rw [rounds_succ]
    go_wp2
    go_ret
    exact ⟨.inl rfl, Below.refl _ _⟩
  · clear hv
    go_enter Tryz.func250, Tryz.ntmps250
    go_wp2_with fail
    go_loopw [8] (fun i wr => ∃ k : Nat, k ≤ ss.length ∧ i = .int .i64 k ∧ Below w.heap.size w wr) (fun i _ => ss.length - (intOf i).toNat)
    case atStart => exact ⟨0, Nat.zero_le _, rfl, Below.refl _ _⟩
    case round =>
      obtain ⟨k, hk, rfl, hb⟩ := hrel
      by_cases hlt : k < ss.length
      · obtain ⟨s, hs⟩ : ∃ s, ss[k]? = some s := ⟨ss[k], List.getElem?_eq_getElem hlt⟩
        obtain ⟨q0, q1, q2, q3⟩ := hcell k s hs
        have g0 := below_cell hb q0
        have g1 := below_cell hb q1
        have g2 := below_cell hb q2
        have g3 := below_cell hb q3
        have c1 := below_cell hb h1
        have c2 := below_cell hb h2
        have hp' := hp.below hb
        clear hs q0 q1 q2 q3 hcell h1 h2 hp
        go_wp2_with fail
        refine (delH_calls cp cw lo' s pv ps _ hp' c1 c2).mono ?_
        rintro e w' ⟨b, rfl, hb'⟩
        have hb2 := hb.trans (hb'.mono hb.size)
        cases b
        · go_wp2_with fail
          go_roundw
          case rel => exact ⟨k + 1, by omega, by go_num, hb2⟩
          case measure => simp [intOf]; omega
        · go_wp2_with fail
          go_ret
          exact ⟨.inr ⟨k, hlt, rfl⟩, hb2⟩
      · obtain rfl : k = ss.length := by omega
        go_wp2_with fail
        go_ret
        exact ⟨.inl rfl, hb⟩

theorem zero_hd (w : World) : (zeroValue 126).run Tryz.prog w = .ok (.agg #[.string ⟨#[]⟩, .int .i64 0, .int .i64 0, .int .i64 0]) w := by kernel_rfl
/-- What picking some healths out answers: some healths, no more; of old memory their block alone has changed. -/
def SomeHds (Q : HD → Prop) (lo n : Nat) (w : World) (row : Option Nat) (e : Ending) (w' : World) : Prop := ∃ v' ss', e = .returned v' ∧ Hds w' lo v' ss' ∧ ss'.length ≤ n ∧ w.grownBy w' row ∧ ∀ s ∈ ss', Q s

set_option maxRecDepth 100000 in
set_option maxHeartbeats 2000000 in
theorem deleteH_calls (Q : HD → Prop) (cp cw lo lo' g off cap : Nat) (pv : Value) (ss : List HD) (ps : List PD) (w : World) (hv : RowsAt w 126 g off 4 (ss.map hdRow)) (hn : ss.length ≤ 1000000) (hcap : ss.length ≤ cap) (hl : lo ≤ g) (hp : Plays w lo' pv ps)
    (h1 : w.cell? ⟨cp, 0, none⟩ = some pv) (h2 : w.cell? ⟨cw, 0, none⟩ = some (.func (.func 104) #[] #[])) (n1 : cp ≠ g) (n2 : cw ≠ g) (hQ : ∀ s ∈ ss, Q s) :
    Calls Tryz.prog 195 #[.slice (some ⟨g, off, none⟩) ss.length cap, delFnH cp cw] w (SomeHds Q lo ss.length w (some g)) := by
  have HQ := Lib.hid hQ
  clear hQ
  have hS : Hds w lo (.slice (some ⟨g, off, none⟩) ss.length cap) ss := by
    have := hv.rows (cap := cap) (by simpa using hn) hl
    simpa [Hds] using this
  go_enter Tryz.func195, Tryz.ntmps195
  go_wp2_with fail
  refine (indexH_calls cp cw lo lo' _ pv ss ps w hS hp h1 h2).mono ?_
  rintro e w1 ⟨he, hb1⟩
  rcases he with rfl | ⟨i, hi, rfl⟩
  · clear h1 h2
    go_wp2_with fail
    go_ret
    exact ⟨_, ss, rfl, Rows.below hS hb1, Nat.le_refl _, gb_below hb1 _, HQ.out⟩
  · have hv1 := hv.below hb1
    have hp1 := hp.below hb1
    have c1 := below_cell hb1 h1
    have c2 := below_cell hb1 h2
    have hne : ((i : Int) == -1) = false := by rw [beq_eq_false_iff_ne]; omega
    clear hS h1 h2 hp hv
    go_wp2_with fail
    go_loopw [5, 6] (fun a b wr => ∃ (i j : Nat) (ss' : List HD), i < j ∧ j ≤ ss.length ∧ a = .int .i64 i ∧ b = .int .i64 j ∧ ss'.length = ss.length ∧ RowsAt wr 126 g off 4 (ss'.map hdRow) ∧ w1.grownBy wr (some g) ∧ Hid (∀ s ∈ ss', Q s)) (fun _ b _ => ss.length - (intOf b).toNat)
    case atStart => exact ⟨i, i + 1, ss, by omega, by omega, rfl, by go_num, rfl, hv1, gb_refl _ _, Lib.hid HQ.out⟩
    case round =>
      obtain ⟨i, j, ss', hij, hj, rfl, rfl, hlen, hr, hgw, HQ'⟩ := hrel
      obtain ⟨curg, hcg⟩ := hv1.heap
      have hpr := hp1.row hgw hcg (by decide) (by decide)
      have k1 := gb_cell hgw c1 n1
      have k2 := gb_cell hgw c2 n2
      clear c1 c2 hp1 hv1 hcg
      by_cases hlt : j < ss.length
      · obtain ⟨s, hs⟩ : ∃ s, ss'[j]? = some s := ⟨ss'[j]'(by omega), List.getElem?_eq_getElem (by omega)⟩
        have hsr : (ss'.map hdRow)[j]? = some (hdRow s) := by simp [hs]
        have q0 := hr.cell hsr (show (hdRow s)[0]? = some (.string s.player) from rfl)
        have q1 := hr.cell hsr (show (hdRow s)[1]? = some (.int .i64 s.start) from rfl)
        have q2 := hr.cell hsr (show (hdRow s)[2]? = some (.int .i64 s.stop) from rfl)
        have q3 := hr.cell hsr (show (hdRow s)[3]? = some (.int .i64 s.kind) from rfl)
        rw [Nat.add_zero] at q0
        have Hsm := Lib.hid (List.mem_of_getElem? hs)
        clear hs hsr
        go_wp2_with fail
        refine (delH_calls cp cw lo' s pv ps _ (hpr.below (below_alloc _ _)) (below_cell (below_alloc _ _) k1) (below_cell (below_alloc _ _) k2)).mono ?_
        rintro e w2 ⟨b, rfl, hb2⟩
        have hr2 := (hr.below (below_alloc wr _)).below hb2
        cases b
        · have d0 : w2.cell? ⟨wr.heap.size, 0, none⟩ = some (.string s.player) := below_cell hb2 (by rw [World.cell?_alloc_at _ _ _ _ rfl]; rfl)
          have d1 : w2.cell? ⟨wr.heap.size, 1, none⟩ = some (.int .i64 s.start) := below_cell hb2 (by rw [World.cell?_alloc_at _ _ _ _ rfl]; rfl)
          have d2 : w2.cell? ⟨wr.heap.size, 2, none⟩ = some (.int .i64 s.stop) := below_cell hb2 (by rw [World.cell?_alloc_at _ _ _ _ rfl]; rfl)
          have d3 : w2.cell? ⟨wr.heap.size, 3, none⟩ = some (.int .i64 s.kind) := below_cell hb2 (by rw [World.cell?_alloc_at _ _ _ _ rfl]; rfl)
          obtain ⟨si, hsi⟩ : ∃ s, ss'[i]? = some s := ⟨ss'[i]'(by omega), List.getElem?_eq_getElem (by omega)⟩
          have hsr : (ss'.map hdRow)[i]? = some (hdRow si) := by simp [hsi]
          have p0 := hr2.cell hsr (show (hdRow si)[0]? = some (.string si.player) from rfl)
          have p1 := hr2.cell hsr (show (hdRow si)[1]? = some (.int .i64 si.start) from rfl)
          have p2 := hr2.cell hsr (show (hdRow si)[2]? = some (.int .i64 si.stop) from rfl)
          have p3 := hr2.cell hsr (show (hdRow si)[3]? = some (.int .i64 si.kind) from rfl)
          rw [Nat.add_zero] at p0
          have f0 := hr2.free (off + i * 4)
          have f1 := hr2.free (off + i * 4 + 1)
          have f2 := hr2.free (off + i * 4 + 2)
          have f3 := hr2.free (off + i * 4 + 3)
          have Hsr := Lib.hid hsr
          have hgz : g ≠ wr.heap.size := by have := hr.lt; omega
          clear hsi hsr k1 k2 q0 q1 q2 q3
          go_wp2_with fail
          go_roundw
          case rel =>
            have r3 := rows_set4 hr2 Hsr.out (.string s.player) (.int .i64 s.start) (.int .i64 s.stop) (.int .i64 s.kind)
            refine ⟨i + 1, j + 1, ss'.set i s, by omega, by omega, by go_num, by go_num, by simpa using hlen, ?_, gb_trans hgw (gb_trans (gb_trans (gb_alloc wr _ _) (gb_below hb2 _)) (gb_set4 _ _ _ _ _ _ _)), Lib.hid fun x hx => by
              rcases List.mem_or_eq_of_mem_set hx with hx | rfl
              · exact HQ'.out x hx
              · exact HQ'.out _ Hsm.out⟩
            rw [List.map_set]
            exact r3
          case measure => simp [intOf]; omega
        · go_wp2_with fail
          go_roundw
          case rel => exact ⟨i, j + 1, ss', by omega, by omega, rfl, by go_num, hlen, hr2, gb_trans hgw (gb_trans (gb_alloc wr _ _) (gb_below hb2 _)), HQ'⟩
          case measure => simp [intOf]; omega
      · obtain rfl : j = ss.length := by omega
        clear k1 k2 hpr
        obtain ⟨w4, hrun, hr4, hg4⟩ := run_clear_rows (P := Tryz.prog) (t := 49) (ty := 0) (sz := 4) (i := i) (n := ss.length - i) (cap := cap - i) Tryz.underlying49 zero_hd rfl (by simp [Value.cells, Value.oneCell']) hr (by simp; omega) (by decide)
        have Hr4 := Lib.hid hr4
        have Hg4 := Lib.hid hg4
        clear hr4 hg4 hr
        go_wp2_with fail
        go_ret
        refine ⟨_, ss'.take i, rfl, ?_, by simp; omega, gb_trans (gb_below hb1 _) (gb_trans hgw Hg4.out), fun x hx => HQ'.out x (List.mem_of_mem_take hx)⟩
        have h5 := Hr4.out.rows (lo := lo) (cap := cap) (by simp; omega) hl
        rw [← List.map_take] at h5
        have e : ((ss'.take i).map hdRow).length = i := by simp; omega
        rw [e] at h5
        exact h5

set_option maxRecDepth 100000 in
set_option maxHeartbeats 1000000 in
theorem deleteHNil_calls (cp cw lo' : Nat) (pv : Value) (ps : List PD) (w : World) (hp : Plays w lo' pv ps) (h1 : w.cell? ⟨cp, 0, none⟩ = some pv) (h2 : w.cell? ⟨cw, 0, none⟩ = some (.func (.func 104) #[] #[])) :
    Calls Tryz.prog 195 #[.slice none 0 0, delFnH cp cw] w fun e w' => e = .returned (.slice none 0 0) ∧ Below w.heap.size w w' := by
  have hS : Hds w 0 (.slice none 0 0) [] := ⟨by simp, by simp, .inl ⟨rfl, rfl⟩⟩
  go_enter Tryz.func195, Tryz.ntmps195
  go_wp2_with fail
  refine (indexH_calls cp cw 0 lo' _ pv [] ps w hS hp h1 h2).mono ?_
  rintro e w1 ⟨he, hb1⟩
  rcases he with rfl | ⟨i, hi, rfl⟩
  · clear h1 h2
    go_wp2_with fail
    go_ret
    exact ⟨rfl, hb1⟩
  · simp at hi




/-- Healths that the call made itself. -/
def OwnHd (w : World) (base : Nat) (v : Value) (ss : List HD) : Prop := w.ownsRow base 126 4 v ss.length (ss.map hdRow).flatten

/-- What ofThese answers: some of the healths. -/
def TheseHds (Q : HD → Prop) (lo n : Nat) (w : World) (e : Ending) (w' : World) : Prop := ∃ v' ss', e = .returned v' ∧ Hds w' lo v' ss' ∧ ss'.length ≤ n ∧ Below lo w w' ∧ ∀ s ∈ ss', Q s

set_option maxRecDepth 100000 in
set_option maxHeartbeats 1000000 in
theorem ofTheseH_calls (Q : HD → Prop) (lo lo' : Nat) (pv v : Value) (ss : List HD) (ps : List PD) (w : World) (hv : OwnHd w lo v ss) (hn : ss.length ≤ 1000000) (hl : lo ≤ w.heap.size) (hp : Plays w lo' pv ps) (hQ : ∀ s ∈ ss, Q s) :
    Calls Tryz.prog 103 #[pv, v, .func (.func 104) #[] #[]] w (TheseHds Q lo ss.length w) := by
  obtain ⟨pa, pc, rfl⟩ : ∃ a c, pv = .slice a ps.length c := by
    rcases plays_at hp with ⟨rfl, rfl⟩ | ⟨g, off, cap, rfl, _⟩
    · exact ⟨none, 0, rfl⟩
    · exact ⟨_, _, rfl⟩
  have HQ := Lib.hid hQ
  clear hQ
  rcases hv.2 with ⟨rfl, h0⟩ | ⟨g, cap, cur, rfl, _, hgh, hcap, _⟩
  · obtain rfl : ss = [] := List.eq_nil_of_length_eq_zero h0
    clear hv h0 hn
    go_enter Tryz.func103, Tryz.ntmps103
    go_wp2_with fail
    refine (deleteHNil_calls w.heap.size (w.heap.size + 1) lo' _ ps _ (hp.below (below2 w _ _)) (two_cell0 w _ _ _ _) (two_cell1 w _ _ _ _)).mono ?_
    rintro e w1 ⟨rfl, hb⟩
    go_wp2_with fail
    go_ret
    exact ⟨_, [], rfl, ⟨by simp, by simp, .inl ⟨rfl, rfl⟩⟩, by simp, ((below2 w _ _).trans (hb.mono (by simp; omega))).mono hl, by simp⟩
  · obtain ⟨hr, hlg⟩ := RowsAt.of_owns (rows := ss.map hdRow) (by rw [List.length_map]; exact hv) (by simp [hdRow])
    have hgl := lt_of_heap hgh
    clear hv hgh
    go_enter Tryz.func103, Tryz.ntmps103
    go_wp2_with fail
    refine (deleteH_calls Q w.heap.size (w.heap.size + 1) lo lo' g 0 cap _ ss ps _ (hr.below (below2 w _ _)) hn hcap hlg (hp.below (below2 w _ _)) (two_cell0 w _ _ _ _) (two_cell1 w _ _ _ _) (by omega) (by omega) HQ.out).mono ?_
    rintro e w1 ⟨v', ss', rfl, hS, hle, hg1, hq⟩
    have HS := Lib.hid hS
    have Hq := Lib.hid hq
    clear hS hq hr hp
    go_wp2_with fail
    go_ret
    exact ⟨_, ss', rfl, HS.out, hle, (((below2 w _ _).mono hl).grown hg1 (by simp; omega) fun r hr => by cases hr; exact hlg), Hq.out⟩
end Go.Proofs.YtiedmbgdmafhaaaGreatDoor
namespace Go.Proofs.YtiedmbgdmafhaaaGreatDoor
open Go.RowKit

def OkH (h : HD) : Prop := h.player.size ≤ 40 ∧ -1099511627776 ≤ h.start ∧ h.start ≤ 1099511627776 ∧ -1099511627776 ≤ h.stop ∧ h.stop ≤ 1099511627776 ∧ -1099511627776 ≤ h.kind ∧ h.kind ≤ 1099511627776
theorem info_hd : (Tryz.prog.info? 126).map (fun i => (i.zero, i.size, i.bytes)) = some (some (.agg #[.string ⟨#[]⟩, .int .i64 0, .int .i64 0, .int .i64 0]), 4, 40) := by kernel_rfl
theorem own_hd_row {w w' : World} {base B : Nat} {v : Value} {ss : List HD} {cur : Array Value} {T : Nat} {fr : Nat × Nat} (h : OwnHd w base v ss) (hg : w.grownBy w' (some B)) (hB : w.heap[B]? = some (.cells cur T fr)) (h1 : T ≠ 126) : OwnHd w' base v ss :=
  World.ownsRow.kept h hg (by right; intro e; obtain ⟨_, cur', h⟩ := own_block h B e; rw [hB] at h; cases h; exact h1 rfl)
/-- The state of the inner round: the stream, the fixture's own block, the row so far. -/
structure YS (w : World) (B X base : Nat) (out : Value) (fs : List HD) (f : HD) (n : Nat) (w' : World) : Prop where
  st : St w' B n
  x : w'.heap[X]? = some (.cells #[.string f.player, .int .i64 f.start, .int .i64 f.stop, .int .i64 f.kind] 126 (0, 0))
  own : OwnHd w' base out fs
  gb : w.grownBy w' (some B)
theorem YS.drew {w : World} {B X base : Nat} {out : Value} {fs : List HD} {f : HD} {n : Nat} {w' : World} (h : YS w B X base out fs f n w') : YS w B X base out fs f n w'.drew :=
  ⟨h.st, h.x, h.own, gb_drew' h.gb⟩
theorem YS.mono {w : World} {B X base : Nat} {out : Value} {fs : List HD} {f : HD} {n m : Nat} {w' : World} (h : YS w B X base out fs f n w') (hm : n ≤ m) : YS w B X base out fs f m w' :=
  ⟨h.st.mono hm, h.x, h.own, h.gb⟩
theorem YS.alloc {w : World} {B X base : Nat} {out : Value} {fs : List HD} {f : HD} {n : Nat} {w' : World} (h : YS w B X base out fs f n w') (o : Obj) : YS w B X base out fs f n (w'.alloc o) :=
  ⟨h.st.alloc o, (heap_alloc_old w' _ (lt_of_heap h.x)).trans h.x, World.ownsRow.alloc h.own o, gb_trans h.gb (gb_alloc w' o _)⟩
theorem YS.step {w : World} {B X base : Nat} {out : Value} {fs : List HD} {f : HD} {n m : Nat} {w' w'' : World} (h : YS w B X base out fs f n w') (hs : St w'' B m) (hg : w'.grownBy w'' (some B)) : YS w B X base out fs f m w'' := by
  obtain ⟨cur, hB⟩ := st_cells h.st
  refine ⟨hs, (hg.block X (lt_of_heap h.x) ?_).trans h.x, own_hd_row h.own hg hB (by decide), gb_trans h.gb hg⟩
  intro e
  cases e
  have := h.x
  rw [hB] at this
  cases this
theorem YS.cells {w : World} {B X base : Nat} {out : Value} {fs : List HD} {f : HD} {n : Nat} {w' : World} (h : YS w B X base out fs f n w') :
    w'.cell? ⟨X, 0, none⟩ = some (.string f.player) ∧ w'.cell? ⟨X, 1, none⟩ = some (.int .i64 f.start) ∧ w'.cell? ⟨X, 2, none⟩ = some (.int .i64 f.stop) ∧ w'.cell? ⟨X, 3, none⟩ = some (.int .i64 f.kind) ∧ ∀ o, w'.frozen? ⟨X, o, none⟩ = false := by
  refine ⟨?_, ?_, ?_, ?_, fun o => by simp [World.frozen?, h.x]⟩ <;> (rw [cell_of_row w' _ _ _ _ _ h.x]; rfl)
/-- Behind stores into the fixture's own block. -/
theorem YS.put {w : World} {B X base : Nat} {out : Value} {fs : List HD} {f g : HD} {n : Nat} {w' w'' : World} (h : YS w B X base out fs f n w') (hBw : B < w.heap.size) (hX : w.heap.size ≤ X) (hg : w'.grownBy w'' (some X)) (hn : w''.heap[X]? = some (.cells #[.string g.player, .int .i64 g.start, .int .i64 g.stop, .int .i64 g.kind] 126 (0, 0))) (ho : out.ownBlock ≠ some X) : YS w B X base out fs g n w'' := by
  have hne : X ≠ B := by omega
  refine ⟨?_, hn, World.ownsRow.kept h.own hg (.inr ho), gb_then h.gb hg fun r hr => by cases hr; exact hX⟩
  obtain ⟨lv, k, h1, h2, h3⟩ := h.st
  refine ⟨lv, k, (hg.block B (lt_of_heap h1) (by intro e; cases e; exact hne rfl)).trans h1, h2, ?_⟩
  rcases h3 with h3 | ⟨b, off, len, cap, e, hb, hl, hx⟩
  · exact .inl h3
  · refine .inr ⟨b, off, len, cap, e, hb, hl, fun j hj => ?_⟩
    obtain ⟨x, hx'⟩ := hx j hj
    have hbX : b ≠ X := by omega
    exact ⟨x, (World.cell?_of_block (hg.block b (by have := lt_of_heap h1; omega) (by intro e; cases e; exact hbX rfl))).trans hx'⟩
def SomeH (lo : Nat) (w : World) (v : Value) : Prop := ∃ hs, Hds w lo v hs ∧ hs.length ≤ 10 ∧ ∀ h ∈ hs, OkH h
set_option maxRecDepth 100000 in
set_option maxHeartbeats 8000000 in
theorem healthOf_calls (B N lo' : Nat) (pv : Value) (ps : List PD) (w : World) (hs : St w B N) (hN : N ≤ 3990000) (hp : Plays w lo' pv ps) :
    Calls Tryz.prog 27 #[.pointer (some ⟨B, 0, none⟩), pv] w (Made B (N + 300) (SomeH w.heap.size) w) := by
  obtain ⟨i0, hi, hz0, hz1, hz2⟩ := info_parts info_hd
  obtain ⟨pa, pc, rfl⟩ := plays_shape hp
  have hBw := hs.lt
  have Hp := Lib.hid hp
  have Hs := Lib.hid hs
  clear hp
  go_enter Tryz.func27, Tryz.ntmps27
  go_wp2_with fail
  obtain ⟨W1, hW1⟩ : ∃ W1, W1 = w.alloc (.cells #[.string ⟨#[97, 110, 110]⟩, .string ⟨#[98, 101, 97]⟩, .string ⟨#[99, 105, 100]⟩, .string ⟨#[100, 97, 110]⟩, .string ⟨#[101, 118, 101]⟩] 9) := ⟨_, rfl⟩
  have h5 : FiveAt W1 w.heap.size := by rw [hW1]; exact heap_alloc_new w _
  have hs1 : St W1 B N := by rw [hW1]; exact hs.alloc _
  have hgW : w.grownBy W1 (some B) := by rw [hW1]; exact gb_alloc w _ _
  have hbW : Below w.heap.size w W1 := by rw [hW1]; exact below_alloc w _
  have hWs : W1.heap.size = w.heap.size + 1 := by rw [hW1]; simp
  rw [← hW1]
  have HgW := Lib.hid hgW
  have HbW := Lib.hid hbW
  have HWs := Lib.hid hWs
  have H5 := Lib.hid h5
  have hBW1 : B < W1.heap.size := by omega
  clear hW1 h5 hgW hbW hWs hs
  go_loopw [5, 12] (fun out i wr => ∃ (j : Nat) (hs : List HD), j ≤ 5 ∧ i = .int .i64 j ∧ hs.length ≤ 2 * j ∧ Hid (∀ h ∈ hs, OkH h) ∧ OwnHd wr W1.heap.size out hs ∧ St wr B (N + 40 * j) ∧ W1.grownBy wr (some B)) (fun _ i _ => 5 - (intOf i).toNat)
  case atStart => exact ⟨0, [], by omega, rfl, by simp, Lib.hid (by simp), World.ownsRow_nil _ _ _ _, hs1.mono (by omega), gb_refl _ _⟩
  case round =>
    obtain ⟨j, fs, hj, rfl, hpl, Hfs, hown, hsr, hg⟩ := hrel
    clear hs1
    by_cases hlt : j < 5
    · have hk5 : FiveAt wr w.heap.size := (hg.block w.heap.size (by have := HWs.out; omega) (by intro e; cases e; omega)).trans H5.out
      obtain ⟨kk, hkm, hcell⟩ := five_cell hk5 hlt
      have hk40 : kk.size ≤ 40 := small_of (ks := fiveKeys) (by decide) hkm
      obtain ⟨curB, hB⟩ := st_cells hsr
      clear hk5 hkm
      go_wp2_with fail
      refine (range_calls B (N + 40 * j) 1 3 wr hsr (by omega) (by omega) (by omega) (by omega)).mono ?_
      rintro e w1 ⟨v, ⟨wk, rfl, hw0, hw1⟩, rfl, hs1, hg1⟩
      have hown1 := own_hd_row hown hg1 hB (by decide)
      have hg01 := gb_trans hg hg1
      obtain ⟨curB1, hB1⟩ := st_cells hs1
      clear hB hown hsr hg hg1 curB hcell
      go_wp2_with fail
      refine (range_calls B (N + 40 * j + 1) 0 2 w1 hs1 (by omega) (by omega) (by omega) (by omega)).mono ?_
      rintro e w2 ⟨v, ⟨m, rfl, hm0, hm1⟩, rfl, hs2, hg2⟩
      have hown2 := own_hd_row hown1 hg2 hB1 (by decide)
      have hg02 := gb_trans hg01 hg2
      clear hB1 hown1 hs1 hg01 hg2 curB1
      obtain ⟨wo, rfl⟩ : ∃ wo : World, wo = wr := ⟨_, rfl⟩
      go_wp2_with fail
      go_loopw [5, 8, 20] (fun out wv q wr => ∃ (t : Nat) (fs' : List HD) (a : Int), q = .int .i64 t ∧ (t : Int) ≤ m ∧ wv = .int .i64 a ∧ 0 ≤ a ∧ a ≤ 3 + 4 * (t : Int) ∧ fs'.length ≤ fs.length + t ∧ Hid (∀ h ∈ fs', OkH h) ∧ OwnHd wr W1.heap.size out fs' ∧ St wr B (N + 40 * j + 2 + 16 * t) ∧ W1.grownBy wr (some B)) (fun _ _ q _ => 2 - (intOf q).toNat)
      case atStart => exact ⟨0, fs, wk, rfl, by omega, rfl, by omega, by omega, by omega, Hfs, hown2, hs2.mono (by omega), hg02⟩
      case round =>
        obtain ⟨t, fs', a, rfl, htm, rfl, ha0, ha1, hpl', Hfs', hown', hs', hg'⟩ := hrel
        clear hown2 hs2 hg02
        by_cases hlt2 : (t : Int) < m
        · obtain ⟨N1, hN1⟩ : ∃ N1, N1 = N + 40 * j + 2 + 16 * t := ⟨_, rfl⟩
          have HN1 := Lib.hid hN1
          have hN1' : N1 ≤ 3995000 := by omega
          rw [← hN1] at hs'
          clear hN1
          obtain ⟨curB, hB⟩ := st_cells hs'
          go_wp2_with fail
          refine (range_calls B N1 1 3 wr hs' (by omega) (by omega) (by omega) (by omega)).mono ?_
          rintro e w1 ⟨v, ⟨r, rfl, hr0, hr1⟩, rfl, hs1, hg1⟩
          have hown1 := own_hd_row hown' hg1 hB (by decide)
          have hg01 := gb_trans hg' hg1
          have hka : IntKind.i64.wrap (a + r) = a + r := IntWalk.i64_in _ (by omega)
          obtain ⟨curB1, hB1⟩ := st_cells hs1
          clear hB hown' hg1 hs' hg' curB
          go_wp2_with fail
          refine (pick_calls B (N1 + 1) w1.heap.size _ [1, 2] _ (hs1.alloc _) (by omega) (ints_new w1 [1, 2] (by decide)) hs1.lt (by simp)).mono ?_
          rintro e w3 ⟨v, ⟨kd, rfl, hkd⟩, rfl, hs3, hg3⟩
          have hkd' : 1 ≤ kd ∧ kd ≤ 2 := by
            simp only [List.mem_cons, List.not_mem_nil, or_false] at hkd
            omega
          have hgo3 := gb_trans (gb_alloc w1 (.cells ([1, 2].map (Value.int .i64)).toArray 3) (some B)) hg3
          have hown3 := own_hd_row hown1 hgo3 hB1 (by decide)
          have hg03 := gb_trans hg01 hgo3
          clear hkd hB1 hown1 hgo3 hg3 hs1 hg01 curB1
          obtain ⟨X, hX⟩ : ∃ X, X = w3.heap.size := ⟨_, rfl⟩
          have hXw : W1.heap.size ≤ X := by rw [hX]; exact hg03.size
          have hXs : YS W1 B X W1.heap.size u5 fs' ⟨kk, a, a + r, kd⟩ (N1 + 3) (w3.alloc (.cells #[.string kk, .int .i64 a, .int .i64 (a + r), .int .i64 kd] 126)) := by
            rw [hX]
            exact ⟨(hs3.alloc _).mono (by omega), heap_alloc_new w3 _, World.ownsRow.alloc hown3 _, gb_trans hg03 (gb_alloc w3 _ _)⟩
          have hoX : u5.ownBlock ≠ some X := by
            intro e
            obtain ⟨_, cur', h⟩ := own_block hown3 X e
            have := lt_of_heap h
            omega
          have hb3 : -1099511627776 ≤ a ∧ a ≤ 1099511627776 ∧ -1099511627776 ≤ a + r ∧ a + r ≤ 1099511627776 := by omega
          clear hs3 hown3 hg03
          go_upto_region 9 with fail
          obtain ⟨wA, hwA⟩ : ∃ wA, wA = w3.alloc (.cells #[.string kk, .int .i64 a, .int .i64 (a + r), .int .i64 kd] 126) := ⟨_, rfl⟩
          rw [← hwA] at hXs ⊢
          rw [← hX]
          clear hX hwA
          obtain ⟨c0, c1, c2, c3, cf⟩ := hXs.cells
          dsimp only at c0 c1 c2 c3
          have hXd := hXs.drew
          have hXB : X ≠ B := by omega
          have HS := Lib.hid (show ∀ w', wA.grownBy w' (some B) → (wA.grownBy w' (some B) ∧ w'.cell? ⟨X, 2, none⟩ = some (.int .i64 (a + r))) from fun w' hb => ⟨hb, gb_cell hb c2 hXB⟩)
          have hb0 : wA.grownBy wA.drew (some B) := gb_drew' (gb_refl _ _)
          clear c0 c1 c2 c3 cf hXs
          refine wp_region_held_drew (S := fun w' => wA.grownBy w' (some B) ∧ w'.cell? ⟨X, 2, none⟩ = some (.int .i64 (a + r))) (by kernel_rfl) ?_ (fun hHeld => ?_)
          · (exact HS.out _ (by first | assumption | exact gb_trans hHeld.1 (by assumption)))
          refine take_at 0 32 (v := ?_) rfl rfl (by kernel_rfl) (by kernel_rfl) (by kernel_rfl) (fun _ _ _ h => h) (by rfl) ?y0 (by assumption) ?r0
          case y0 =>
            intro w hSw
            try dsimp only at hSw
            go_simp
            try with_reducible rfl
          simp only [List.set_cons_zero, List.set_cons_succ]
          refine take_at 1 33 (v := ?_) rfl rfl (by kernel_rfl) (by kernel_rfl) (by kernel_rfl) (fun _ _ _ h => h) (by rfl) ?y1 (by assumption) ?r1
          case y1 =>
            intro w hSw
            try dsimp only at hSw
            go_simp
            try with_reducible rfl
          simp only [List.set_cons_zero, List.set_cons_succ]
          refine take_at 2 34 (v := ?_) rfl rfl (by kernel_rfl) (by kernel_rfl) (by kernel_rfl) (fun _ _ _ h => h) (by rfl) ?y2 (by assumption) ?r2
          case y2 =>
            intro w hSw
            try dsimp only at hSw
            go_simp
            try with_reducible rfl
          simp only [List.set_cons_zero, List.set_cons_succ]
          refine run_at 3 rfl (by kernel_rfl) (by rfl) (fun K hK => ?_)
          go_simp
          refine (range_calls B (N1 + 3) 0 1 _ hXd.st (by omega) (by omega) (by omega) (by omega)).mono ?_
          rintro e w5 ⟨v, ⟨dr, rfl, hdr0, hdr1⟩, rfl, hs5, hg5⟩
          replace hXd := hXd.step hs5 hg5
          clear hs5
          go_wp2_with fail
          refine hK.out _ _ ?_ (fun hHeld => ?_)
          · (exact HS.out _ (by first | assumption | exact gb_trans hHeld.1 (by assumption)))
          clear hK K
          try simp only [Act.put, List.setIfInBounds_toArray, List.set_cons_zero, List.set_cons_succ]
          refine take_at 4 36 (v := ?_) rfl rfl (by kernel_rfl) (by kernel_rfl) (by kernel_rfl) (fun _ _ _ h => h) (by rfl) ?y4 (by assumption) ?r4
          case y4 =>
            intro w hSw
            try dsimp only at hSw
            go_simp
            try with_reducible rfl
          simp only [List.set_cons_zero, List.set_cons_succ]
          refine take_at 5 8 (v := ?_) rfl rfl (by kernel_rfl) (by kernel_rfl) (by kernel_rfl) (fun _ _ _ h => h) (by rfl) ?y5 (by assumption) ?r5
          case y5 =>
            intro w hSw
            try dsimp only at hSw
            go_simp
            try with_reducible rfl
          simp only [List.set_cons_zero, List.set_cons_succ]
          refine wpAnyH_done (by kernel_rfl) ?_ _
          clear HS hb0 hHeld
          go_wp2_with fail
          refine (flip_calls B (N1 + 4) 60 _ hXd.st (by omega) (by omega) (by omega)).mono ?_
          rintro e w4 ⟨v, ⟨b2, rfl⟩, rfl, hs4, hg4⟩
          have hX4 := hXd.step hs4 hg4
          clear hXd hs4 hg4
          go_upto_if 38 with fail
          go_cut [38] from 22 to 57 (fun _ wc => ∃ f : HD, OkH f ∧ YS W1 B X W1.heap.size u5 fs' f (N1 + 16) wc)
          case first =>
            cases b2
            · go_wp2_with fail
              go_meet
              case rel => exact ⟨_, ⟨hk40, hb3.1, hb3.2.1, hb3.2.2.1, hb3.2.2.2, by simp only; omega, by simp only; omega⟩, hX4.mono (by omega)⟩
            · have hX5 := hX4.alloc (.cells #[.string kk, .string ⟨#[122, 101, 100]⟩] 9)
              have hS := strs_new w4 [kk, K_zed] (by simp)
              have hSB := hX4.st.lt
              clear hX4
              go_wp2_with fail
              refine (some_calls B (N1 + 4 + 1) w4.heap.size _ [kk, K_zed] _ hX5.st (by omega) hS hSB (by simp)).mono ?_
              rintro e w5 ⟨v, ⟨kX, rfl, hkX⟩, rfl, hs5, hg5⟩
              have hkX40 : kX.size ≤ 40 := by
                simp only [List.mem_cons, List.not_mem_nil, or_false] at hkX
                rcases hkX with rfl | rfl
                · exact hk40
                · decide
              replace hX5 := hX5.step hs5 hg5
              clear hs5 hg5 hkX hS
              go_wp2_with fail
              refine (odd_calls B _ 1 5 _ hX5.st (by omega) (by omega) (by omega) (by omega)).mono ?_
              rintro e w6 ⟨v, ⟨na, rfl, hla, hua⟩, rfl, hs5, hg5⟩
              replace hX5 := hX5.step hs5 hg5
              clear hs5 hg5
              go_wp2_with fail
              refine (odd_calls B _ 2 9 _ hX5.st (by omega) (by omega) (by omega) (by omega)).mono ?_
              rintro e w7 ⟨v, ⟨nb, rfl, hlb, hub⟩, rfl, hs5, hg5⟩
              replace hX5 := hX5.step hs5 hg5
              clear hs5 hg5
              go_wp2_with fail
              refine (odd_calls B _ 1 2 _ hX5.st (by omega) (by omega) (by omega) (by omega)).mono ?_
              rintro e w8 ⟨v, ⟨nc, rfl, hlc, huc⟩, rfl, hs5, hg5⟩
              replace hX5 := hX5.step hs5 hg5
              clear hs5 hg5
              obtain ⟨q0, q1, q2, q3, qf⟩ := hX5.cells
              dsimp only at q0 q1 q2 q3
              go_wp2_with fail
              go_meet
              case rel => exact ⟨⟨kX, na, nb, nc⟩, ⟨hkX40, hla, hua, hlb, hub, hlc, huc⟩, (hX5.put hBW1 hXw (gb_trans (gb_setCell _ _ _ _) (gb_trans (gb_setCell _ _ _ _) (gb_trans (gb_setCell _ _ _ _) (gb_setCell _ _ _ _)))) (by simp [World.setCell, Array.getElem?_modify, hX5.x]) hoX).mono (by omega)⟩
          case rest =>
            obtain ⟨f, hok, hXe⟩ := hcut
            clear hX4
            obtain ⟨c0, c1, c2, c3, cf⟩ := hXe.cells
            obtain ⟨fk, fa, fb, fc'⟩ := f
            dsimp only at c0 c1 c2 c3
            have hXlt := lt_of_heap hXe.x
            go_wp2_with (at_builtin; refine wpList_append_own _ rfl _ _ 49 rfl W1.heap.size 126 i0 (.agg #[.string ⟨#[]⟩, .int .i64 0, .int .i64 0, .int .i64 0]) 4 40 Tryz.underlying49 hi hz0 hz1 hz2 rfl (by decide) _ _ _ rfl (World.ownsRow.alloc hXe.own _) ⟨wc.heap.size, 0, none⟩ 1 1 [.string fk, .int .i64 fa, .int .i64 fb, .int .i64 fc'] rfl rfl ?c1 ?c2 ?c3 ?c4 ?c5 ?_)
            case c1 => exact cell_four_new _ _ _ _ _ _
            case c2 => simp [Value.oneCell']
            case c3 => unfold maxLen; omega
            case c4 => omega
            case c5 => simp; have := hXe.gb.size; omega
            intro v' w6 hown6 hgrow _
            have hs6 := ((hXe.st.alloc (.cells #[.string fk, .int .i64 fa, .int .i64 fb, .int .i64 fc'] 126)).grown hgrow fun r hr => by have := (own_block hXe.own r hr).1; omega)
            have hg6 := gb_then (gb_trans hXe.gb (gb_alloc wc (.cells #[.string fk, .int .i64 fa, .int .i64 fb, .int .i64 fc'] 126) _)) hgrow fun r hr => (own_block hXe.own r hr).1
            have hown6' : OwnHd w6 W1.heap.size v' (fs' ++ [⟨fk, fa, fb, fc'⟩]) := by unfold OwnHd; simpa [hdRow] using hown6
            have Hfs6 : Hid (∀ h ∈ fs' ++ [⟨fk, fa, fb, fc'⟩], OkH h) := Lib.hid fun f hf => by
              rcases List.mem_append.1 hf with h | h
              · exact Hfs'.out f h
              · obtain rfl := List.mem_singleton.1 h; exact hok
            have HN2 := HN1.out
            clear hown6 hgrow c0 c1 c2 c3 cf hXe
            go_wp2_with fail
            go_roundw
            case rel =>
              have hwr : IntKind.i64.wrap (a + r + dr) = a + r + dr := IntWalk.i64_in _ (by omega)
              exact ⟨t + 1, _, a + r + dr, by go_num, by omega, by first | rfl | (rw [hwr]), by omega, by omega, by simp; omega, Hfs6, hown6', hs6.mono (by omega), hg6⟩
            case measure => simp [intOf]; omega
        · clear hlt
          go_wp2_with fail
          go_roundw
          case rel => exact ⟨j + 1, fs', by omega, by go_num, by omega, Hfs', hown', hs'.mono (by omega), hg'⟩
          case measure => simp [intOf]; omega
    · obtain rfl : j = 5 := by omega
      obtain ⟨curW, hBW⟩ := st_cells Hs.out
      have hpr := Hp.out.row (gb_trans HgW.out hg) hBW (by decide) (by decide)
      have C := Lib.hid (ofTheseH_calls OkH W1.heap.size lo' _ _ fs ps wr hown (by omega) hg.size hpr Hfs.out)
      obtain ⟨oa, oc, rfl⟩ := owns_shape hown
      clear hown hpr hBW
      go_wp2_with fail
      refine C.out.mono ?_
      rintro e w2 ⟨v', ss', rfl, hS, hle, hb, hq⟩
      have HS := Lib.hid hS
      have Hq := Lib.hid hq
      clear hS hq C
      go_wp2_with fail
      go_ret
      exact ⟨_, ⟨ss', HS.out.mono (by have := HWs.out; omega), by omega, Hq.out⟩, rfl, (hsr.lift fun k hk => hb.block k (by have := hg.size; omega)).mono (by omega), ⟨hb.os.trans (hg.os.trans HgW.out.os), hb.tape.trans (hg.tape.trans HgW.out.tape), hb.output.trans (hg.output.trans HgW.out.output), Nat.le_trans (gb_trans HgW.out hg).size hb.size, fun k hk hne => (hb.block k (by have := HWs.out; omega)).trans ((gb_trans HgW.out hg).block k hk hne)⟩⟩
end Go.Proofs.YtiedmbgdmafhaaaGreatDoor
