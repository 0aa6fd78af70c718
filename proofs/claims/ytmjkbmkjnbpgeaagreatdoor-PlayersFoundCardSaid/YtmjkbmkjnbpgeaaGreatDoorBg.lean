/- CheckStints. clubIn: the last stint up to a week. -/
import Derived.Test.YtmjkbmkjnbpgeaaGreatDoorChks
namespace Go.Proofs.YtmjkbmkjnbpgeaaGreatDoor
open Go.RowKit

def chkSt (ps : List PD) (ss : List SD) : Int := firstE [chkPs ps, eachE ss.length 1000 (stF ps ss)]
theorem sts_shape {w : World} {lo : Nat} {v : Value} {ss : List SD} (h : Sts w lo v ss) : ∃ a c, v = .slice a ss.length c := by
  rcases sts_at h with ⟨rfl, rfl⟩ | ⟨g, off, cap, rfl, _⟩
  · exact ⟨none, 0, rfl⟩
  · exact ⟨_, _, rfl⟩
theorem plays_shape {w : World} {lo : Nat} {v : Value} {ps : List PD} (h : Plays w lo v ps) : ∃ a c, v = .slice a ps.length c := by
  rcases plays_at h with ⟨rfl, rfl⟩ | ⟨g, off, cap, rfl, _⟩
  · exact ⟨none, 0, rfl⟩
  · exact ⟨_, _, rfl⟩
theorem Sts.below {w w' : World} {lo : Nat} {v : Value} {ss : List SD} (h : Sts w lo v ss) (hb : Below w.heap.size w w') : Sts w' lo v ss := Rows.below h hb

set_option maxRecDepth 100000 in
set_option maxHeartbeats 2000000 in
theorem checkStints_calls (lo lo' : Nat) (pv v : Value) (ps : List PD) (ss : List SD) (w : World) (hp : Plays w lo' pv ps) (hps : ∀ p ∈ ps, SmallP p) (hpn : ps.length ≤ 1000000) (hG : Glob w) (hS : Sts w lo v ss) (hss : ∀ s ∈ ss, OkS s) (hsn : ss.length ≤ 1000000) :
    Calls Tryz.prog 23 #[pv, v] w (IntBelow (chkSt ps ss) w) := by
  obtain ⟨pa, pc, rfl⟩ := plays_shape hp
  obtain ⟨sa, sc, rfl⟩ := sts_shape hS
  obtain ⟨W, hW⟩ : ∃ W, W = (w.alloc (.cells #[.slice pa ps.length pc] 26)).alloc (.cells #[.slice sa ss.length sc] 28) := ⟨_, rfl⟩
  have hwW : Below w.heap.size w W := by rw [hW]; exact below2 w _ _
  have x0 : W.cell? ⟨w.heap.size, 0, none⟩ = some (.slice pa ps.length pc) := by rw [hW]; exact two_cell0 w _ _ _ _
  have x1 : W.cell? ⟨w.heap.size + 1, 0, none⟩ = some (.slice sa ss.length sc) := by rw [hW]; exact two_cell1 w _ _ _ _
  have hpW := hp.below hwW
  have hSW := hS.below hwW
  have hGW := hG.below hwW
  have HS := Lib.hid (show ∀ w', Below W.heap.size W w' → (Below W.heap.size W w' ∧ Glob w' ∧ Plays w' lo' (.slice pa ps.length pc) ps ∧ Sts w' lo (.slice sa ss.length sc) ss ∧ w'.cell? ⟨w.heap.size, 0, none⟩ = some (.slice pa ps.length pc) ∧ w'.cell? ⟨w.heap.size + 1, 0, none⟩ = some (.slice sa ss.length sc)) from fun w' hb => ⟨hb, hGW.below hb, hpW.below hb, hSW.below hb, below_cell hb x0, below_cell hb x1⟩)
  have hf : ∀ (X W2 : World) (i : Nat), Below W.heap.size W X → i < ss.length → Below X.heap.size X W2 → Calls Tryz.prog 89 (#[.int .i64 (i : Int)] ++ #[.pointer (some ⟨w.heap.size + 1, 0, none⟩), .pointer (some ⟨w.heap.size, 0, none⟩)]) W2 (IntBelow (stF ps ss i) W2) := by
    intro X W2 i hX hi hb
    obtain ⟨_, _, hp2, hS2, y0, y1⟩ := HS.out W2 (below_step hX hb)
    obtain ⟨s, hsi⟩ : ∃ s, ss[i]? = some s := ⟨ss[i], List.getElem?_eq_getElem hi⟩
    rcases sts_at hS2 with ⟨_, rfl⟩ | ⟨g, off, cap, e, _⟩
    · simp at hi
    · rw [e] at hS2 y1
      exact checkStints1_calls (w.heap.size + 1) w.heap.size g off cap i lo lo' pa pc ps ss s W2 hsi (hss s (List.mem_of_getElem? hsi)) hsn y1 y0 hS2 hp2
  have Hf := Lib.hid hf
  have hb0 := (Below.refl W.heap.size W).drew
  clear hf x0 x1 hpW hSW hGW hp hS hG
  go_enter Tryz.func23, Tryz.ntmps23
  go_upto_region 1 with fail
  rw [← hW]
  clear hW
  refine wp_region_held_drew (S := fun w' => Below W.heap.size W w' ∧ Glob w' ∧ Plays w' lo' (.slice pa ps.length pc) ps ∧ Sts w' lo (.slice sa ss.length sc) ss ∧ w'.cell? ⟨w.heap.size, 0, none⟩ = some (.slice pa ps.length pc) ∧ w'.cell? ⟨w.heap.size + 1, 0, none⟩ = some (.slice sa ss.length sc)) (by kernel_rfl) ?_ (fun hHeld => ?_)
  · (exact HS.out _ (by first | assumption | exact hHeld.1 | exact below_step hHeld.1 (by assumption) | exact below_step hHeld.1 (below_alloc _ _)))
  refine take_at 0 5 (v := ?_) rfl rfl (by kernel_rfl) (by kernel_rfl) (by kernel_rfl) (fun _ _ _ h => h) (by rfl) ?y0 (by assumption) ?r0
  case y0 =>
    intro w hSw
    try dsimp only at hSw
    go_simp
    try with_reducible rfl
  simp only [List.set_cons_zero, List.set_cons_succ]
  refine take_at 2 7 (v := ?_) rfl rfl (by kernel_rfl) (by kernel_rfl) (by kernel_rfl) (fun _ _ _ h => h) (by rfl) ?y2 (by assumption) ?r2
  case y2 =>
    intro w hSw
    try dsimp only at hSw
    go_simp
    try with_reducible rfl
  simp only [List.set_cons_zero, List.set_cons_succ]
  refine take_at 3 8 (v := ?_) rfl rfl (by kernel_rfl) (by kernel_rfl) (by kernel_rfl) (fun _ _ _ h => h) (by rfl) ?y3 (by assumption) ?r3
  case y3 =>
    intro w hSw
    try dsimp only at hSw
    go_simp
    try with_reducible rfl
  simp only [List.set_cons_zero, List.set_cons_succ]
  refine take_at 4 9 (v := ?_) rfl rfl (by kernel_rfl) (by kernel_rfl) (by kernel_rfl) (fun _ _ _ h => h) (by rfl) ?y4 (by assumption) ?r4
  case y4 =>
    intro w hSw
    try dsimp only at hSw
    go_simp
    try with_reducible rfl
  simp only [List.set_cons_zero, List.set_cons_succ]
  refine run_at 1 rfl (by kernel_rfl) (by rfl) (fun K hK => ?_)
  go_simp
  refine (checkPlayers_calls lo' _ ps _ (by exact hHeld.2.2.1) hps hpn (by exact hHeld.2.1)).mono ?_
  rintro e w' ⟨rfl, hb⟩
  go_wp2_with fail
  refine hK.out _ _ ?_ (fun hHeld => ?_)
  · (exact HS.out _ (by first | assumption | exact hHeld.1 | exact below_step hHeld.1 (by assumption) | exact below_step hHeld.1 (below_alloc _ _)))
  clear hK K
  try simp only [Act.put, List.setIfInBounds_toArray, List.set_cons_zero, List.set_cons_succ]
  refine run_at 5 rfl (by kernel_rfl) (by rfl) (fun K hK => ?_)
  go_simp
  refine (each_calls 89 #[.pointer (some ⟨w.heap.size + 1, 0, none⟩), .pointer (some ⟨w.heap.size, 0, none⟩)] (enters_of Tryz.func89 (by kernel_rfl) rfl) (stF ps ss) ss.length 1000 _ hsn (by exact fun W2 i hi hb => Hf.out _ W2 i hHeld.1 hi hb)).mono ?_
  rintro e w' ⟨rfl, hb⟩
  go_wp2_with fail
  refine hK.out _ _ ?_ (fun hHeld => ?_)
  · (exact HS.out _ (by first | assumption | exact hHeld.1 | exact below_step hHeld.1 (by assumption) | exact below_step hHeld.1 (below_alloc _ _)))
  clear hK K
  try simp only [Act.put, List.setIfInBounds_toArray, List.set_cons_zero, List.set_cons_succ]
  refine run_at 6 rfl (by kernel_rfl) (by rfl) (fun K hK => ?_)
  go_simp
  refine hK.out _ _ ?_ (fun hHeld => ?_)
  · (exact HS.out _ (by first | assumption | exact hHeld.1 | exact below_step hHeld.1 (by assumption) | exact below_step hHeld.1 (below_alloc _ _)))
  clear hK K
  try simp only [Act.put, List.setIfInBounds_toArray, List.set_cons_zero, List.set_cons_succ]
  refine run_at 7 rfl (by kernel_rfl) (by rfl) (fun K hK => ?_)
  go_simp
  refine (orE_calls _ 0 2 [chkPs ps, eachE ss.length 1000 (stF ps ss)] _ (by simp) (by exact nums2 _ _ _ _)).mono ?_
  rintro e w' ⟨rfl, rfl⟩
  go_wp2_with fail
  refine hK.out _ _ ?_ (fun hHeld => ?_)
  · (exact HS.out _ (by first | assumption | exact hHeld.1 | exact below_step hHeld.1 (by assumption) | exact below_step hHeld.1 (below_alloc _ _)))
  clear hK K
  try simp only [Act.put, List.setIfInBounds_toArray, List.set_cons_zero, List.set_cons_succ]
  refine take_at 8 4 (v := ?_) rfl rfl (by kernel_rfl) (by kernel_rfl) (by kernel_rfl) (fun _ _ _ h => h) (by rfl) ?y8 (by assumption) ?r8
  case y8 =>
    intro w hSw
    try dsimp only at hSw
    go_simp
    try with_reducible rfl
  simp only [List.set_cons_zero, List.set_cons_succ]
  refine wpAnyH_done (by kernel_rfl) ?_ _
  go_wp2_with fail
  go_ret
  exact ⟨rfl, below_step hwW hHeld.1⟩
end Go.Proofs.YtmjkbmkjnbpgeaaGreatDoor
namespace Go.Proofs.YtmjkbmkjnbpgeaaGreatDoor
open Go.RowKit

/-- The search for the first number that has p, from i to j. -/
def sr (p : Nat → Bool) : Nat → Nat → Nat → Nat
  | 0, i, _ => i
  | f + 1, i, j => if i < j then (if p ((i + j) / 2) then sr p f i ((i + j) / 2) else sr p f ((i + j) / 2 + 1) j) else i
def srI (p : Nat → Bool) (n : Nat) : Nat := sr p n 0 n
theorem sr_end {p : Nat → Bool} {f i j : Nat} (h : ¬ i < j) : sr p f i j = i := by
  cases f with
  | zero => rfl
  | succ f => rw [sr, if_neg h]
theorem sr_no {p : Nat → Bool} {f i j : Nat} (h : i < j) (hf : j - i ≤ f) (hl : p ((i + j) / 2) = false) : ∃ f', sr p f i j = sr p f' ((i + j) / 2 + 1) j ∧ j - ((i + j) / 2 + 1) ≤ f' := by
  cases f with
  | zero => omega
  | succ f => exact ⟨f, by rw [sr, if_pos h, hl]; rfl, by omega⟩
theorem sr_yes {p : Nat → Bool} {f i j : Nat} (h : i < j) (hf : j - i ≤ f) (hl : p ((i + j) / 2) = true) : ∃ f', sr p f i j = sr p f' i ((i + j) / 2) ∧ (i + j) / 2 - i ≤ f' := by
  cases f with
  | zero => omega
  | succ f => exact ⟨f, by rw [sr, if_pos h, if_pos hl], by omega⟩
theorem sr_le {p : Nat → Bool} : ∀ f i j, i ≤ j → sr p f i j ≤ j := by
  intro f
  induction f with
  | zero => intro i j h; exact h
  | succ f ih =>
    intro i j h
    rw [sr]
    split
    · split
      · exact Nat.le_trans (ih _ _ (by omega)) (by omega)
      · exact ih _ _ (by omega)
    · exact h
theorem srI_le (p : Nat → Bool) (n : Nat) : srI p n ≤ n := sr_le n 0 n (Nat.zero_le _)
/-- Where p only turns from no to yes, the search finds the turn. -/
theorem sr_spec {p : Nat → Bool} {n : Nat} (hm : ∀ i j, i < j → j < n → p i = true → p j = true) : ∀ f i j, i ≤ j → j ≤ n → j - i ≤ f → (∀ k, k < i → p k = false) → (∀ k, j ≤ k → k < n → p k = true) →
    (∀ k, k < sr p f i j → p k = false) ∧ (∀ k, sr p f i j ≤ k → k < n → p k = true) := by
  intro f
  induction f with
  | zero =>
    intro i j hij _ hf h1 h2
    have : i = j := by omega
    subst this
    exact ⟨h1, h2⟩
  | succ f ih =>
    intro i j hij hj hf h1 h2
    rw [sr]
    split
    · rename_i hlt
      split
      · rename_i hl
        refine ih _ _ (by omega) (by omega) (by omega) h1 (fun k hk hkn => ?_)
        rcases Nat.lt_or_eq_of_le hk with h | rfl
        · exact hm _ k h hkn hl
        · exact hl
      · rename_i hl
        have hl' : p ((i + j) / 2) = false := by simpa using hl
        refine ih _ _ (by omega) hj (by omega) (fun k hk => ?_) h2
        rcases Nat.lt_succ_iff_lt_or_eq.1 hk with h | rfl
        · cases hh : p k
          · rfl
          · rw [hm k _ h (by omega) hh] at hl'; cases hl'
        · exact hl'
    · have : i = j := by omega
      subst this
      exact ⟨h1, h2⟩

set_option maxRecDepth 100000 in
set_option maxHeartbeats 1000000 in
theorem search_calls (g : Nat) (caps : Array Value) (eg : ∀ args w, (callFunc g args).run Tryz.prog w = .ok (.enter g args) w) (p : Nat → Bool) (n : Nat) (w : World) (hn : n ≤ 1000000)
    (hf : ∀ (W : World) (i : Nat), i < n → Below w.heap.size w W → Calls Tryz.prog g (#[.int .i64 (i : Int)] ++ caps) W (BoolIs (p i) W)) :
    Calls Tryz.prog 148 #[.int .i64 (n : Int), .func (.func g) #[] caps] w (IntBelow (srI p n : Int) w) := by
  have Hf := Lib.hid hf
  clear hf
  go_enter Tryz.func148, Tryz.ntmps148
  go_wp2_with fail
  go_loopw [5, 6] (fun a b wr => ∃ i j : Nat, i ≤ j ∧ j ≤ n ∧ a = .int .i64 i ∧ b = .int .i64 j ∧ Below w.heap.size w wr ∧ Hid (∃ f, srI p n = sr p f i j ∧ j - i ≤ f)) (fun a b _ => (intOf b).toNat - (intOf a).toNat)
  case atStart => exact ⟨0, n, by omega, by omega, rfl, rfl, Below.refl _ _, Lib.hid ⟨n, rfl, by omega⟩⟩
  case round =>
    obtain ⟨i, j, hij, hj, rfl, rfl, hb, HF⟩ := hrel
    by_cases hlt : i < j
    · have hh : (i + j) / 2 < n := by omega
      go_wp2_with fail
      rw [show ((i : Int) + (j : Int)) / 2 = (((i + j) / 2 : Nat) : Int) from by omega]
      refine (Hf.out wr ((i + j) / 2) hh hb).mono ?_
      rintro e w' ⟨rfl, hb'⟩
      have hb2 := hb.trans (hb'.mono hb.size)
      cases hl : p ((i + j) / 2)
      · have HF' := Lib.hid (show ∃ f, srI p n = sr p f ((i + j) / 2 + 1) j ∧ j - ((i + j) / 2 + 1) ≤ f by
          obtain ⟨f, h1, h2⟩ := HF.out
          obtain ⟨f', h3, h4⟩ := sr_no hlt h2 hl
          exact ⟨f', h1.trans h3, h4⟩)
        clear hl
        go_wp2_with fail
        go_roundw
        case rel => exact ⟨(i + j) / 2 + 1, j, by omega, by omega, by go_num, rfl, hb2, HF'⟩
        case measure => simp [intOf]; omega
      · have HF' := Lib.hid (show ∃ f, srI p n = sr p f i ((i + j) / 2) ∧ (i + j) / 2 - i ≤ f by
          obtain ⟨f, h1, h2⟩ := HF.out
          obtain ⟨f', h3, h4⟩ := sr_yes hlt h2 hl
          exact ⟨f', h1.trans h3, h4⟩)
        clear hl
        go_wp2_with fail
        go_roundw
        case rel => exact ⟨i, (i + j) / 2, by omega, by omega, rfl, by go_num, hb2, HF'⟩
        case measure => simp [intOf]; omega
    · obtain rfl : i = j := by omega
      have HI := Lib.hid (show (srI p n : Int) = i by
        obtain ⟨f, h1, _⟩ := HF.out
        rw [h1, sr_end (by omega)])
      clear hlt hij
      go_wp2_with fail
      go_ret
      exact ⟨ret_int HI.out.symm, hb⟩

set_option maxRecDepth 100000 in
set_option maxHeartbeats 1000000 in
theorem clubIn1_calls (cl ca g off cap i : Nat) (ss : List SD) (s asked : SD) (W : World) (hi : ss[i]? = some s)
    (h1 : W.cell? ⟨cl, 0, none⟩ = some (.slice (some ⟨g, off, none⟩) ss.length cap)) (a0 : W.cell? ⟨ca, 0, none⟩ = some (.string asked.player)) (a1 : W.cell? ⟨ca, 1, none⟩ = some (.string asked.club)) (a2 : W.cell? ⟨ca, 2, none⟩ = some (.int .i64 asked.week))
    (q0 : W.cell? ⟨g, off + i * 3, none⟩ = some (.string s.player)) (q1 : W.cell? ⟨g, off + i * 3 + 1, none⟩ = some (.string s.club)) (q2 : W.cell? ⟨g, off + i * 3 + 2, none⟩ = some (.int .i64 s.week)) :
    Calls Tryz.prog 149 #[.int .i64 (i : Int), .pointer (some ⟨cl, 0, none⟩), .pointer (some ⟨ca, 0, none⟩)] W (BoolIs (decide (0 < cmpSt s asked)) W) := by
  have hlt : i < ss.length := (List.getElem?_eq_some_iff.1 hi).1
  have HS := Lib.hid (show ∀ w', Below W.heap.size W w' → (Below W.heap.size W w' ∧ w'.cell? ⟨cl, 0, none⟩ = some (.slice (some ⟨g, off, none⟩) ss.length cap) ∧ w'.cell? ⟨ca, 0, none⟩ = some (.string asked.player) ∧ w'.cell? ⟨ca, 1, none⟩ = some (.string asked.club) ∧ w'.cell? ⟨ca, 2, none⟩ = some (.int .i64 asked.week) ∧ w'.cell? ⟨g, off + i * 3, none⟩ = some (.string s.player) ∧ w'.cell? ⟨g, off + i * 3 + 1, none⟩ = some (.string s.club) ∧ w'.cell? ⟨g, off + i * 3 + 2, none⟩ = some (.int .i64 s.week)) from fun w' hb => ⟨hb, below_cell hb h1, below_cell hb a0, below_cell hb a1, below_cell hb a2, below_cell hb q0, below_cell hb q1, below_cell hb q2⟩)
  have hb0 := (Below.refl W.heap.size W).drew
  clear h1 a0 a1 a2 q0 q1 q2 hi
  go_enter Tryz.func149, Tryz.ntmps149
  go_wp2_with fail
  refine wp_region_held_drew (S := fun w' => Below W.heap.size W w' ∧ w'.cell? ⟨cl, 0, none⟩ = some (.slice (some ⟨g, off, none⟩) ss.length cap) ∧ w'.cell? ⟨ca, 0, none⟩ = some (.string asked.player) ∧ w'.cell? ⟨ca, 1, none⟩ = some (.string asked.club) ∧ w'.cell? ⟨ca, 2, none⟩ = some (.int .i64 asked.week) ∧ w'.cell? ⟨g, off + i * 3, none⟩ = some (.string s.player) ∧ w'.cell? ⟨g, off + i * 3 + 1, none⟩ = some (.string s.club) ∧ w'.cell? ⟨g, off + i * 3 + 2, none⟩ = some (.int .i64 s.week)) (by kernel_rfl) ?_ (fun hHeld => ?_)
  · (exact HS.out _ (by first | assumption | exact hHeld.1 | exact below_step hHeld.1 (by assumption) | exact below_step hHeld.1 (below_alloc _ _)))
  refine take_at 0 5 (v := ?_) rfl rfl (by kernel_rfl) (by kernel_rfl) (by kernel_rfl) (fun _ _ _ h => h) (by rfl) ?y0 (by assumption) ?r0
  case y0 =>
    intro w hSw
    try dsimp only at hSw
    go_simp
    try with_reducible rfl
  simp only [List.set_cons_zero, List.set_cons_succ]
  refine take_at 1 6 (v := ?_) rfl rfl (by kernel_rfl) (by kernel_rfl) (by kernel_rfl) (fun _ _ _ h => h) (by rfl) ?y1 (by assumption) ?r1
  case y1 =>
    intro w hSw
    try dsimp only at hSw
    go_simp
    try with_reducible rfl
  simp only [List.set_cons_zero, List.set_cons_succ]
  refine take_at 2 7 (v := ?_) rfl rfl (by kernel_rfl) (by kernel_rfl) (by kernel_rfl) (fun _ _ _ h => h) (by rfl) ?y2 (by assumption) ?r2
  case y2 =>
    intro w hSw
    try dsimp only at hSw
    go_simp
    try with_reducible rfl
  simp only [List.set_cons_zero, List.set_cons_succ]
  refine take_at 3 8 (v := ?_) rfl rfl (by kernel_rfl) (by kernel_rfl) (by kernel_rfl) (fun _ _ _ h => h) (by rfl) ?y3 (by assumption) ?r3
  case y3 =>
    intro w hSw
    try dsimp only at hSw
    go_simp
    try with_reducible rfl
  simp only [List.set_cons_zero, List.set_cons_succ]
  refine take_at 4 9 (v := ?_) rfl rfl (by kernel_rfl) (by kernel_rfl) (by kernel_rfl) (fun _ _ _ h => h) (by rfl) ?y4 (by assumption) ?r4
  case y4 =>
    intro w hSw
    try dsimp only at hSw
    go_simp
    try with_reducible rfl
  simp only [List.set_cons_zero, List.set_cons_succ]
  refine run_at 5 rfl (by kernel_rfl) (by rfl) (fun K hK => ?_)
  go_simp
  refine (compareStints_calls s asked _).mono ?_
  rintro e w' ⟨rfl, hb⟩
  go_wp2_with fail
  refine hK.out _ _ ?_ (fun hHeld => ?_)
  · (exact HS.out _ (by first | assumption | exact hHeld.1 | exact below_step hHeld.1 (by assumption) | exact below_step hHeld.1 (below_alloc _ _)))
  clear hK K
  try simp only [Act.put, List.setIfInBounds_toArray, List.set_cons_zero, List.set_cons_succ]
  refine take_at 6 11 (v := ?_) rfl rfl (by kernel_rfl) (by kernel_rfl) (by kernel_rfl) (fun _ _ _ h => h) (by rfl) ?y6 (by assumption) ?r6
  case y6 =>
    intro w hSw
    try dsimp only at hSw
    go_simp
    try with_reducible rfl
  simp only [List.set_cons_zero, List.set_cons_succ]
  refine take_at 7 4 (v := ?_) rfl rfl (by kernel_rfl) (by kernel_rfl) (by kernel_rfl) (fun _ _ _ h => h) (by rfl) ?y7 (by assumption) ?r7
  case y7 =>
    intro w hSw
    try dsimp only at hSw
    go_simp
    try with_reducible rfl
  simp only [List.set_cons_zero, List.set_cons_succ]
  refine wpAnyH_done (by kernel_rfl) ?_ _
  go_wp2_with fail
  go_ret
  exact ⟨rfl, hHeld.1⟩

/-- The club of a player in a week, as the search finds it. -/
def askS (who : ByteArray) (week : Int) : SD := ⟨who, ⟨#[]⟩, week⟩
def clubK (ss : List SD) (who : ByteArray) (week : Int) : Nat := srI (fun i => decide (0 < cmpSt (stAt ss i) (askS who week))) ss.length
def clubB (ss : List SD) (who : ByteArray) (week : Int) : ByteArray :=
  if clubK ss who week = 0 then ⟨#[]⟩ else if beqS (stAt ss (clubK ss who week - 1)).player who then (stAt ss (clubK ss who week - 1)).club else ⟨#[]⟩

set_option maxRecDepth 100000 in
set_option maxHeartbeats 2000000 in
theorem clubIn_calls (lo : Nat) (who : ByteArray) (week : Int) (v : Value) (ss : List SD) (w : World) (hS : Sts w lo v ss) (hn : ss.length ≤ 1000000) :
    Calls Tryz.prog 75 #[v, .string who, .int .i64 week] w fun e w' => e = .returned (.string (clubB ss who week)) ∧ Below w.heap.size w w' := by
  obtain ⟨sa, sc, rfl⟩ := sts_shape hS
  obtain ⟨W, hW⟩ : ∃ W, W = (w.alloc (.cells #[.slice sa ss.length sc] 28)).alloc (.cells #[.string who, .string ⟨#[]⟩, .int .i64 week] 98) := ⟨_, rfl⟩
  have hwW : Below w.heap.size w W := by rw [hW]; exact below2 w _ _
  have x0 : W.cell? ⟨w.heap.size, 0, none⟩ = some (.slice sa ss.length sc) := by rw [hW, World.cell?_alloc_past _ _ _ (by simp), World.cell?_alloc_at _ _ _ _ rfl]; rfl
  have a0 : W.cell? ⟨w.heap.size + 1, 0, none⟩ = some (.string who) := by rw [hW, World.cell?_alloc_at _ _ _ _ (by simp)]; rfl
  have a1 : W.cell? ⟨w.heap.size + 1, 1, none⟩ = some (.string ⟨#[]⟩) := by rw [hW, World.cell?_alloc_at _ _ _ _ (by simp)]; rfl
  have a2 : W.cell? ⟨w.heap.size + 1, 2, none⟩ = some (.int .i64 week) := by rw [hW, World.cell?_alloc_at _ _ _ _ (by simp)]; rfl
  have hSW := hS.below hwW
  have hf : ∀ (X : World) (i : Nat), i < ss.length → Below W.heap.size W X → Calls Tryz.prog 149 (#[.int .i64 (i : Int)] ++ #[.pointer (some ⟨w.heap.size, 0, none⟩), .pointer (some ⟨w.heap.size + 1, 0, none⟩)]) X (BoolIs (decide (0 < cmpSt (stAt ss i) (askS who week))) X) := by
    intro X i hi hb
    obtain ⟨s, hsi⟩ : ∃ s, ss[i]? = some s := ⟨ss[i], List.getElem?_eq_getElem hi⟩
    rw [stAt_some hsi]
    have y0 := below_cell hb x0
    rcases sts_at (hSW.below hb) with ⟨_, rfl⟩ | ⟨g, off, cap, e, _, _, _, hc⟩
    · simp at hi
    · rw [e] at y0
      obtain ⟨q0, q1, q2⟩ := hc i s hsi
      exact clubIn1_calls w.heap.size (w.heap.size + 1) g off cap i ss s (askS who week) X hsi y0 (below_cell hb a0) (below_cell hb a1) (below_cell hb a2) q0 q1 q2
  have Hf := Lib.hid hf
  clear hf hS a0 a1 a2
  have hmono : clubK ss who week ≤ ss.length := srI_le _ _
  have Hb := Lib.hid (show clubB ss who week = if clubK ss who week = 0 then ⟨#[]⟩ else if beqS (stAt ss (clubK ss who week - 1)).player who then (stAt ss (clubK ss who week - 1)).club else ⟨#[]⟩ from rfl)
  have cS := search_calls 149 #[.pointer (some ⟨w.heap.size, 0, none⟩), .pointer (some ⟨w.heap.size + 1, 0, none⟩)] (enters_of Tryz.func149 (by kernel_rfl) rfl) (fun i => decide (0 < cmpSt (stAt ss i) (askS who week))) ss.length W hn Hf.out
  have cS' : Calls Tryz.prog 148 #[.int .i64 (ss.length : Int), .func (.func 149) #[] #[.pointer (some ⟨w.heap.size, 0, none⟩), .pointer (some ⟨w.heap.size + 1, 0, none⟩)]] W (IntBelow (clubK ss who week : Int) W) := cS
  generalize clubK ss who week = k at cS' hmono Hb
  have CS := Lib.hid cS'
  clear cS cS' Hf
  go_enter Tryz.func75, Tryz.ntmps75
  go_upto_region 2 with fail
  rw [← hW]
  clear hW
  go_wp2_with fail
  refine CS.out.mono ?_
  rintro e w' ⟨rfl, hb⟩
  have y0 := below_cell hb x0
  have hS2 := hSW.below hb
  clear x0 hSW
  by_cases hk : k = 0
  · subst hk
    go_wp2_with fail
    go_ret
    exact ⟨by rw [Hb.out]; rfl, below_step hwW hb⟩
  · have e0 : ((k : Int) == 0) = false := by rw [beq_eq_false_iff_ne]; omega
    obtain ⟨s, hsi⟩ : ∃ s, ss[k - 1]? = some s := ⟨_, List.getElem?_eq_getElem (show k - 1 < ss.length by omega)⟩
    have Hb2 := Lib.hid (show clubB ss who week = if beqS s.player who then s.club else ⟨#[]⟩ by rw [Hb.out, if_neg hk, stAt_some hsi])
    rcases sts_at hS2 with ⟨_, rfl⟩ | ⟨g, off, cap, e, _, _, _, hc⟩
    · simp at hmono; omega
    · obtain ⟨q0, q1, q2⟩ := hc (k - 1) s hsi
      rw [e] at y0
      have k1 : 1 ≤ k := by omega
      have w1 : (k : Int) - 1 = ((k - 1 : Nat) : Int) := by omega
      have w2 : ((k - 1 : Nat) : Int) < (ss.length : Int) := by omega
      clear hS2 hc hsi hk
      cases hq : beqS s.player who
      · have e1 : (s.player.toList == who.toList) = false := hq
        have e2 : (!(s.player.toList == who.toList)) = true := by rw [e1]; rfl
        go_wp2_with fail
        go_ret
        exact ⟨by rw [Hb2.out, hq]; rfl, below_step hwW hb⟩
      · have e1 : (s.player.toList == who.toList) = true := hq
        have e2 : (!(s.player.toList == who.toList)) = false := by rw [e1]; rfl
        go_wp2_with fail
        go_ret
        exact ⟨by rw [Hb2.out, hq]; rfl, below_step hwW hb⟩
end Go.Proofs.YtmjkbmkjnbpgeaaGreatDoor
