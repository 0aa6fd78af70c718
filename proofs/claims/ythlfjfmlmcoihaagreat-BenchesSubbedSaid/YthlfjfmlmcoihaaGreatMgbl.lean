/- The one example. -/
import Derived.Test.YthlfjfmlmcoihaaGreatMgax
import Derived.Test.YthlfjfmlmcoihaaGreatMgap
import Derived.Laws.ResultCell
/- Points and Total. -/
namespace Go.Proofs.YthlfjfmlmcoihaaGreat
open Go.RowKit

/-- What Points answers: the points in hundredths, and what is wrong. -/
def ptsE (rs : List RD) (ks : List ByteArray) (l : LD) : Int := firstE [wrE rs ks, lnE l]
def ptsF (rs : List RD) (ks : List ByteArray) (l : LD) : Int × Int := if ptsE rs ks l = 0 then lowF (ptsI rs ks l.stats) 100 else (0, 0)
def TwoIs (f : Int × Int) (x : Int) (w : World) (e : Ending) (w' : World) : Prop := e = .returned (.tuple #[frV f, .int .i64 x]) ∧ Below w.heap.size w w'
def ops_85_1 : Array Go.Oper := #[
  { dst := some 9, op := Go.Op.move (Go.Operand.tmp 0), type := 120, pos := "score.go:45", after := #[], guard := none },
  { dst := some 10, op := Go.Op.move (Go.Operand.tmp 1), type := 39, pos := "score.go:45", after := #[], guard := none },
  { dst := some 11, op := Go.Op.call { callee := Go.Callee.value (Go.Operand.func 129), args := #[Go.Operand.tmp 9, Go.Operand.tmp 10], argTypes := #[120, 39] }, type := 35, pos := "score.go:45", after := #[{ on := 0, ground := Go.Ground.data }, { on := 1, ground := Go.Ground.data }], guard := none },
  { dst := some 12, op := Go.Op.load 125 (Go.Operand.tmp 5), type := 125, pos := "score.go:45", after := #[], guard := none },
  { dst := some 13, op := Go.Op.call { callee := Go.Callee.value (Go.Operand.func 130), args := #[Go.Operand.tmp 12], argTypes := #[125] }, type := 35, pos := "score.go:45", after := #[{ on := 3, ground := Go.Ground.data }, { on := 2, ground := Go.Ground.chain }], guard := none },
  { dst := some 14, op := Go.Op.buildSlice 95 2 #[(0, Go.Operand.tmp 11), (1, Go.Operand.tmp 13)], type := 95, pos := "score.go:45", after := #[{ on := 2, ground := Go.Ground.data }, { on := 4, ground := Go.Ground.data }], guard := none },
  { dst := some 15, op := Go.Op.call { callee := Go.Callee.value (Go.Operand.func 53), args := #[Go.Operand.tmp 14], argTypes := #[95] }, type := 35, pos := "score.go:45", after := #[{ on := 5, ground := Go.Ground.data }, { on := 4, ground := Go.Ground.chain }], guard := none },
  { dst := some 8, op := Go.Op.assign (Go.Operand.tmp 15), type := 35, pos := "score.go:45", after := #[{ on := 6, ground := Go.Ground.data }, { on := 6, ground := Go.Ground.chain }, { on := 0, ground := Go.Ground.phase }, { on := 1, ground := Go.Ground.phase }, { on := 2, ground := Go.Ground.phase }, { on := 3, ground := Go.Ground.phase }, { on := 4, ground := Go.Ground.phase }, { on := 5, ground := Go.Ground.phase }, { on := 6, ground := Go.Ground.phase }], guard := none }]
theorem ops_85_1_0 : ops_85_1[0]? = some ({ dst := some 9, op := Go.Op.move (Go.Operand.tmp 0), type := 120, pos := "score.go:45", after := #[], guard := none } : Go.Oper) := rfl
theorem ops_85_1_1 : ops_85_1[1]? = some ({ dst := some 10, op := Go.Op.move (Go.Operand.tmp 1), type := 39, pos := "score.go:45", after := #[], guard := none } : Go.Oper) := rfl
theorem ops_85_1_2 : ops_85_1[2]? = some ({ dst := some 11, op := Go.Op.call { callee := Go.Callee.value (Go.Operand.func 129), args := #[Go.Operand.tmp 9, Go.Operand.tmp 10], argTypes := #[120, 39] }, type := 35, pos := "score.go:45", after := #[{ on := 0, ground := Go.Ground.data }, { on := 1, ground := Go.Ground.data }], guard := none } : Go.Oper) := rfl
theorem ops_85_1_3 : ops_85_1[3]? = some ({ dst := some 12, op := Go.Op.load 125 (Go.Operand.tmp 5), type := 125, pos := "score.go:45", after := #[], guard := none } : Go.Oper) := rfl
theorem ops_85_1_4 : ops_85_1[4]? = some ({ dst := some 13, op := Go.Op.call { callee := Go.Callee.value (Go.Operand.func 130), args := #[Go.Operand.tmp 12], argTypes := #[125] }, type := 35, pos := "score.go:45", after := #[{ on := 3, ground := Go.Ground.data }, { on := 2, ground := Go.Ground.chain }], guard := none } : Go.Oper) := rfl
theorem ops_85_1_5 : ops_85_1[5]? = some ({ dst := some 14, op := Go.Op.buildSlice 95 2 #[(0, Go.Operand.tmp 11), (1, Go.Operand.tmp 13)], type := 95, pos := "score.go:45", after := #[{ on := 2, ground := Go.Ground.data }, { on := 4, ground := Go.Ground.data }], guard := none } : Go.Oper) := rfl
theorem ops_85_1_6 : ops_85_1[6]? = some ({ dst := some 15, op := Go.Op.call { callee := Go.Callee.value (Go.Operand.func 53), args := #[Go.Operand.tmp 14], argTypes := #[95] }, type := 35, pos := "score.go:45", after := #[{ on := 5, ground := Go.Ground.data }, { on := 4, ground := Go.Ground.chain }], guard := none } : Go.Oper) := rfl
theorem ops_85_1_7 : ops_85_1[7]? = some ({ dst := some 8, op := Go.Op.assign (Go.Operand.tmp 15), type := 35, pos := "score.go:45", after := #[{ on := 6, ground := Go.Ground.data }, { on := 6, ground := Go.Ground.chain }, { on := 0, ground := Go.Ground.phase }, { on := 1, ground := Go.Ground.phase }, { on := 2, ground := Go.Ground.phase }, { on := 3, ground := Go.Ground.phase }, { on := 4, ground := Go.Ground.phase }, { on := 5, ground := Go.Ground.phase }, { on := 6, ground := Go.Ground.phase }], guard := none } : Go.Oper) := rfl
theorem ops_85_1_ns : Go.Region.noSelect ops_85_1 = true := by kernel_rfl
set_option maxRecDepth 100000 in
set_option maxHeartbeats 4000000 in
theorem points2_calls (lo lo' lo3 : Nat) (v kv x : Value) (rs : List RD) (ks : List ByteArray) (l : LD) (w : World) (hR : Rls w lo v rs) (hs : ∀ r ∈ rs, SmallR r) (hn : rs.length ≤ 1000) (hK : Strs w lo' kv ks) (hk : ∀ k ∈ ks, k.size ≤ 1000) (hkn : ks.length ≤ 1000000) (hT : Tds w lo3 x l.stats) (hl : SmallL l) :
    Calls Tryz.prog 85 #[v, kv, lnV l x] w (TwoIs (ptsF rs ks l) (ptsE rs ks l) w) := by
  obtain ⟨ra, rc, rfl⟩ := rls_shape hR
  obtain ⟨ka, kc, rfl⟩ := strs_shape hK
  obtain ⟨xa, xc, rfl⟩ := tds_shape hT
  obtain ⟨W, hW⟩ : ∃ W, W = (w.alloc (.cells #[.string l.player, .int .i64 l.week, .slice xa l.stats.length xc] 125)).alloc (.cells #[.int .i64 0, .int .i64 0] 34) := ⟨_, rfl⟩
  have hwW : Below w.heap.size w W := by rw [hW]; exact (below_alloc w _).trans ((below_alloc _ _).mono (by simp))
  have hx : W.heap[w.heap.size]? = some (.cells #[.string l.player, .int .i64 l.week, .slice xa l.stats.length xc] 125 (0, 0)) := by rw [hW]; exact heap_al (heap_alloc_new w _) _
  have hf : W.heap[w.heap.size + 1]? = some (.cells #[.int .i64 0, .int .i64 0] 34 (0, 0)) := by
    rw [hW]; have := heap_alloc_new (w.alloc (.cells #[.string l.player, .int .i64 l.week, .slice xa l.stats.length xc] 125)) (.cells #[.int .i64 0, .int .i64 0] 34); rwa [World.size_alloc] at this
  have x0 := cell_at hx 0 rfl
  have x1 := cell_at hx 1 rfl
  have x2 := cell_at hx 2 rfl
  have hb0 := (Below.refl W.heap.size W).drew
  have HS := Lib.hid (show ∀ w', Below W.heap.size W w' → (Below W.heap.size W w' ∧ w'.cell? ⟨w.heap.size, 0, none⟩ = some (.string l.player) ∧ w'.cell? ⟨w.heap.size, 1, none⟩ = some (.int .i64 l.week) ∧ w'.cell? ⟨w.heap.size, 2, none⟩ = some (.slice xa l.stats.length xc)) from fun w' hb => ⟨hb, below_cell hb x0, below_cell hb x1, below_cell hb x2⟩)
  have C1 := Lib.hid (fun w' (hb : Below W.heap.size W w') => wrongRules_calls lo lo' _ _ rs ks w' (hR.below (below_step hwW hb)) hs (by omega) (hK.below (below_step hwW hb)) hk hkn)
  have C2 := Lib.hid (fun w' (hb : Below W.heap.size W w') => checkLine_calls lo3 l _ w' (hT.below (below_step hwW hb)) hl)
  have C3 := Lib.hid (fun (h : ptsE rs ks l = 0) w' (hb : Below W.heap.size W w') => points_calls lo lo' lo3 _ _ _ rs ks l w' (hR.below (below_step hwW hb)) hs hn (fit_of (firstE_all0 (firstE_all0 h (wrE rs ks) (by simp)) (chkRl rs) (by simp)) (firstE_all0 h (lnE l) (by simp))) (hK.below (below_step hwW hb)) (hT.below (below_step hwW hb)))
  have HP := Lib.hid (fun (h : ptsE rs ks l = 0) => pts_bound (ks := ks) (fit_of (firstE_all0 (firstE_all0 h (wrE rs ks) (by simp)) (chkRl rs) (by simp)) (firstE_all0 h (lnE l) (by simp))) (rules_ok (firstE_all0 (firstE_all0 h (wrE rs ks) (by simp)) (chkRl rs) (by simp))).1)
  have HF0 := Lib.hid (fun (h : ptsE rs ks l ≠ 0) => (show ptsF rs ks l = (0, 0) by unfold ptsF; rw [if_neg h]))
  have HF1 := Lib.hid (fun (h : ptsE rs ks l = 0) => (show ptsF rs ks l = lowF (ptsI rs ks l.stats) 100 by unfold ptsF; rw [if_pos h]))
  have HE := Lib.hid (show firstE [wrE rs ks, lnE l] = ptsE rs ks l from rfl)
  have Hf := Lib.hid hf
  have HwW := Lib.hid hwW
  clear hR hs hn hK hk hkn hT hl hx x0 x1 x2 hf
  generalize wrE rs ks = E1 at C1 HE
  unfold lnV at C2 C3 ⊢
  generalize lnE l = E2 at C2 HE
  generalize ptsE rs ks l = E at C3 HP HF0 HF1 HE ⊢
  generalize ptsF rs ks l = R at HF0 HF1 ⊢
  go_enter Tryz.func85, Tryz.ntmps85
  go_upto_region 1 with fail
  rw [← hW]
  clear hW
  show Code.wp _ (Code.region 1 ops_85_1 true) _ _ _
  refine region_start 8 (fun w' => Below W.heap.size W w' ∧ w'.cell? ⟨w.heap.size, 0, none⟩ = some (.string l.player) ∧ w'.cell? ⟨w.heap.size, 1, none⟩ = some (.int .i64 l.week) ∧ w'.cell? ⟨w.heap.size, 2, none⟩ = some (.slice xa l.stats.length xc)) (by kernel_rfl) rfl ?_ (fun hHeld => ?_)
  · (exact HS.out _ (by first | assumption | exact hHeld.1 | exact below_step hHeld.1 (by assumption) | exact below_step hHeld.1 (below_alloc _ _)))
  refine take_to 0 9 #[true, false, false, false, false, false, false, false] (v := ?_) ops_85_1_0 rfl ops_85_1_ns (by kernel_rfl) (by kernel_rfl) (fun _ _ _ h => h) (by rfl) ?y0 (by assumption) ?_
  case y0 =>
    intro w hSw
    try dsimp only at hSw
    go_simp
    try with_reducible rfl
  simp only [List.set_cons_zero, List.set_cons_succ]
  refine take_to 1 10 #[true, true, false, false, false, false, false, false] (v := ?_) ops_85_1_1 rfl ops_85_1_ns (by kernel_rfl) (by kernel_rfl) (fun _ _ _ h => h) (by rfl) ?y1 (by assumption) ?_
  case y1 =>
    intro w hSw
    try dsimp only at hSw
    go_simp
    try with_reducible rfl
  simp only [List.set_cons_zero, List.set_cons_succ]
  refine take_to 3 12 #[true, true, false, true, false, false, false, false] (v := ?_) ops_85_1_3 rfl ops_85_1_ns (by kernel_rfl) (by kernel_rfl) (fun _ _ _ h => h) (by rfl) ?y3 (by assumption) ?_
  case y3 =>
    intro w hSw
    try dsimp only at hSw
    go_simp
    try with_reducible rfl
  simp only [List.set_cons_zero, List.set_cons_succ]
  refine run_to 2 #[true, true, true, true, false, false, false, false] ops_85_1_2 (by kernel_rfl) (by kernel_rfl) (by rfl) (fun K hK => ?_)
  go_simp
  refine (C1.out _ (by exact hHeld.1)).mono ?_
  rintro e w' ⟨rfl, hb⟩
  go_wp2_with fail
  refine hK.out _ _ ?_ (fun hHeld => ?_)
  · (exact HS.out _ (by first | assumption | exact hHeld.1 | exact below_step hHeld.1 (by assumption) | exact below_step hHeld.1 (below_alloc _ _)))
  clear hK K
  try simp only [Act.put, List.setIfInBounds_toArray, List.set_cons_zero, List.set_cons_succ]
  refine run_to 4 #[true, true, true, true, true, false, false, false] ops_85_1_4 (by kernel_rfl) (by kernel_rfl) (by rfl) (fun K hK => ?_)
  go_simp
  refine (C2.out _ (by exact hHeld.1)).mono ?_
  rintro e w' ⟨rfl, hb⟩
  go_wp2_with fail
  refine hK.out _ _ ?_ (fun hHeld => ?_)
  · (exact HS.out _ (by first | assumption | exact hHeld.1 | exact below_step hHeld.1 (by assumption) | exact below_step hHeld.1 (below_alloc _ _)))
  clear hK K
  try simp only [Act.put, List.setIfInBounds_toArray, List.set_cons_zero, List.set_cons_succ]
  refine run_to 5 #[true, true, true, true, true, true, false, false] ops_85_1_5 (by kernel_rfl) (by kernel_rfl) (by rfl) (fun K hK => ?_)
  go_simp
  refine hK.out _ _ ?_ (fun hHeld => ?_)
  · (exact HS.out _ (by first | assumption | exact hHeld.1 | exact below_step hHeld.1 (by assumption) | exact below_step hHeld.1 (below_alloc _ _)))
  clear hK K
  try simp only [Act.put, List.setIfInBounds_toArray, List.set_cons_zero, List.set_cons_succ]
  refine run_to 6 #[true, true, true, true, true, true, true, false] ops_85_1_6 (by kernel_rfl) (by kernel_rfl) (by rfl) (fun K hK => ?_)
  go_simp
  refine (orE_calls _ 0 2 [E1, E2] _ (by simp) (by exact nums2 _ _ _ _)).mono ?_
  rintro e w' ⟨rfl, rfl⟩
  rw [HE.out]
  go_wp2_with fail
  refine hK.out _ _ ?_ (fun hHeld => ?_)
  · (exact HS.out _ (by first | assumption | exact hHeld.1 | exact below_step hHeld.1 (by assumption) | exact below_step hHeld.1 (below_alloc _ _)))
  clear hK K
  try simp only [Act.put, List.setIfInBounds_toArray, List.set_cons_zero, List.set_cons_succ]
  refine take_to 7 8 #[true, true, true, true, true, true, true, true] (v := ?_) ops_85_1_7 rfl ops_85_1_ns (by kernel_rfl) (by kernel_rfl) (fun _ _ _ h => h) (by rfl) ?y7 (by assumption) ?_
  case y7 =>
    intro w hSw
    try dsimp only at hSw
    go_simp
    try with_reducible rfl
  simp only [List.set_cons_zero, List.set_cons_succ]
  refine wpAnyH_done (by kernel_rfl) ?_ _
  have hb1 := hHeld.1
  have hf1 := cells_later Hf.out hb1
  obtain ⟨-, x0, x1, x2⟩ := hHeld
  have f0 := free_of hf1 0
  have f1 := free_of hf1 1
  have g0 := cell_at hf1 0 rfl
  have g1 := cell_at hf1 1 rfl
  by_cases hz : E = 0
  · have e1 : (E != 0) = false := by simp [hz]
    have HC := Lib.hid (C3.out hz)
    have HB := HP.out hz
    have HR := Lib.hid (HF1.out hz)
    have Hz := Lib.hid hz
    have Hb1 := Lib.hid hb1
    clear hz C1 C2 hb0 hb hf1 f0 f1 g0 g1
    go_wp2_with fail
    refine (HC.out _ Hb1.out).mono ?_
    rintro e w2 ⟨rfl, hb2⟩
    go_wp2_with fail
    refine (ofHundredths_calls _ _ (by unfold Int64; omega)).mono ?_
    rintro e w3 ⟨rfl, hb3⟩
    have hb03 := below_step (below_step Hb1.out hb2) hb3
    have hf3 := cells_later Hf.out hb03
    have f0 := free_of hf3 0
    have f1 := free_of hf3 1
    have g0 := cell_at hf3 0 rfl
    have g1 := cell_at hf3 1 rfl
    rw [← HR.out, Hz.out]
    have Hb3 := Lib.hid (below_step HwW.out hb03)
    clear hb2 hb3 hb03 hf3 HB
    rw [show frV R = .agg #[.int .i64 R.1, .int .i64 R.2] from rfl]
    obtain ⟨r1, r2⟩ := R
    dsimp only
    go_wp2_with fail
    try simp only [Exit.inBlock, Exit.then]
    refine bodyPost_ret (v := .tuple #[.agg #[.int .i64 r1, .int .i64 r2], .int .i64 0]) ?_ rfl ⟨by rw [Hz.out]; rfl, (Hb3.out.setCell (p := ⟨w.heap.size + 1, 0, none⟩) (by simp) _).setCell (p := ⟨w.heap.size + 1, 1, none⟩) (by simp) _⟩
    rw [results_cell_tmp rfl]
    go_simp
  · have e1 : (E != 0) = true := by simp [hz]
    have HR := HF0.out hz
    subst HR
    have Hb1 := Lib.hid (below_step hwW hb1)
    clear hz C1 C2 C3 hb0 hb hf1 hb1
    go_wp2_with fail
    try simp only [Exit.inBlock, Exit.then]
    refine bodyPost_ret (v := .tuple #[.agg #[.int .i64 0, .int .i64 0], .int .i64 E]) ?_ rfl ⟨rfl, (Hb1.out.setCell (p := ⟨w.heap.size + 1, 0, none⟩) (by simp) _).setCell (p := ⟨w.heap.size + 1, 1, none⟩) (by simp) _⟩
    rw [results_cell_tmp rfl]
    go_simp
end Go.Proofs.YthlfjfmlmcoihaaGreat
namespace Go.Proofs.YthlfjfmlmcoihaaGreat
open Go.RowKit

theorem one_row {w : World} {T g sz cap : Nat} {row : List Value} (h : w.heap[g]? = some (.cells row.toArray T (0, 0))) (hr : row.length = sz) (hc : 1 ≤ cap) : Rows w T 0 sz (.slice (some ⟨g, 0, none⟩) 1 cap) [row] := by
  refine ⟨by simp, by simpa using hr, .inr ⟨g, 0, cap, _, _, rfl, ⟨Nat.zero_le _, by simpa using hc⟩, h, fun i j u hu => ?_⟩⟩
  match i, hu with
  | 0, hu => simpa using hu
  | i + 1, hu => simp at hu
def exR : RD := ⟨⟨#[114]⟩, E_goal, ⟨#[]⟩, 1, 0, 1, 2⟩
def exT : TD := ⟨E_goal, 3⟩
def exL : LD := ⟨E_a, 1, [exT]⟩
theorem ex_e : ptsE [exR] [] exL = 0 := by kernel_rfl
theorem ex_f : ptsF [exR] [] exL = (3, 2) := by kernel_rfl
set_option maxRecDepth 100000 in
set_option maxHeartbeats 2000000 in
theorem scored_calls (w : World) : Calls Tryz.prog 28 #[] w fun e w' => e = .returned (.bool true) ∧ Below w.heap.size w w' := by
  obtain ⟨W, hW⟩ : ∃ W, W = (w.alloc (.cells (rlRow exR).toArray 119)).alloc (.cells (stRow exT).toArray 122) := ⟨_, rfl⟩
  have hwW : Below w.heap.size w W := by rw [hW]; exact (below_alloc w _).trans ((below_alloc _ _).mono (by simp))
  have hx : W.heap[w.heap.size]? = some (.cells (rlRow exR).toArray 119 (0, 0)) := by rw [hW]; exact heap_al (heap_alloc_new w _) _
  have hy : W.heap[w.heap.size + 1]? = some (.cells (stRow exT).toArray 122 (0, 0)) := by
    rw [hW]; have := heap_alloc_new (w.alloc (.cells (rlRow exR).toArray 119)) (.cells (stRow exT).toArray 122); rwa [World.size_alloc] at this
  have hC := points2_calls 0 0 0 (.slice (some ⟨w.heap.size, 0, none⟩) 1 1) (.slice none 0 0) (.slice (some ⟨w.heap.size + 1, 0, none⟩) 1 1) [exR] [] exL W (one_row hx rfl (Nat.le_refl _)) (by simp [SmallR, exR, Int64]; decide) (by simp) ⟨by simp, by simp, .inl ⟨rfl, rfl⟩⟩ (by simp) (by simp) (one_row hy rfl (Nat.le_refl _)) (by simp [SmallL, SmallT, exL, exT, Int64]; decide)
  rw [ex_e, ex_f] at hC
  have HC := Lib.hid hC
  have HwW := Lib.hid hwW
  clear hx hy hwW hC
  unfold lnV exL exT E_a TwoIs frV at HC
  unfold rlRow stRow exR exT E_goal at hW
  go_enter Tryz.func28, Tryz.ntmps28
  go_wp2_with fail
  change Calls _ _ _ ((w.alloc (.cells #[.string ⟨#[114]⟩, .string ⟨#[103, 111, 97, 108]⟩, .string ⟨#[]⟩, .int .i64 1, .int .i64 0, .int .i64 1, .int .i64 2] 119)).alloc (.cells #[.string ⟨#[103, 111, 97, 108]⟩, .int .i64 3] 122)) _
  have HW := Lib.hid hW
  clear hW
  rw [← HW.out]
  refine HC.out.mono ?_
  rintro e w' ⟨rfl, hb'⟩
  have hb := below_step HwW.out hb'
  clear hb'
  go_wp2_with fail
  have hx := heap_alloc_new w' (.cells #[.int .i64 3, .int .i64 2] 34)
  have hb2 := below_step hb (below_alloc w' (.cells #[.int .i64 3, .int .i64 2] 34))
  go_ret
  exact ⟨rfl, hb2⟩
end Go.Proofs.YthlfjfmlmcoihaaGreat
