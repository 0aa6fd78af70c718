/- score.Parts: what each rule gives, written. -/
import Derived.Test.YtfakhapljjbbnaaDoorSph
import Derived.Test.YtfakhapljjbbnaaDoorFrt
import Derived.Test.YtfakhapljjbbnaaDoorPrs
import Derived.Test.YtfakhapljjbbnaaDoorApx
import Derived.Test.YtfakhapljjbbnaaDoorRegj
import Derived.Sort.CutIn
namespace Go.Proofs.YtfakhapljjbbnaaDoor
open Go.RowKit

/-- What a rule gives, written; nothing where it gives nothing. -/
def prtI (ts : List TD) (r : RD) : List PrD := if givenI ts r = 0 then [] else [⟨r.key, frS (lowF (givenI ts r) 100)⟩]
def prtsI (ts : List TD) (rs : List RD) : List PrD := (rs.map (prtI ts)).flatten
theorem prtsI_snoc (ts : List TD) (rs : List RD) (r : RD) : prtsI ts (rs ++ [r]) = prtsI ts rs ++ prtI ts r := by
  unfold prtsI; simp
theorem prtsI_len (ts : List TD) (rs : List RD) : (prtsI ts rs).length ≤ rs.length := by
  unfold prtsI
  induction rs with
  | nil => simp
  | cons r rs ih =>
    have h1 : (prtI ts r).length ≤ 1 := by unfold prtI; split <;> simp
    simp only [List.map_cons, List.flatten_cons, List.length_append, List.length_cons]
    omega
theorem hun64' {d : Int} (h : 0 < d ∧ d ≤ 100) : Int64 d := by unfold Int64; omega
theorem info_pr' : (Tryd.prog.info? 51).map (fun i => (i.zero, i.size, i.bytes)) = some (some (.agg #[.string ⟨#[]⟩, .string ⟨#[]⟩]), 2, 32) := by kernel_rfl
def ptsP (rs : List RD) (ks : List ByteArray) (l : LD) : List PrD := if ptsE rs ks l = 0 then prtsI l.stats (rs.filter (appB ks)) else []
/-- A claim on ends of which none is a panic. -/
def noPan (Q : Exit → Act → World → Prop) : Exit → Act → World → Prop
  | .panic _, _, _ => False
  | .normal, a, w => Q .normal a w
  | .ret, a, w => Q .ret a w
  | .exit i, a, w => Q (.exit i) a w
  | .goto l, a, w => Q (.goto l) a w
  | .outgrown, a, w => Q .outgrown a w
theorem noPan_le {Q : Exit → Act → World → Prop} : ∀ e a w, noPan Q e a w → Q e a w
  | .panic _, _, _, h => h.elim
  | .normal, _, _, h => h
  | .ret, _, _, h => h
  | .exit _, _, _, h => h
  | .goto _, _, _, h => h
  | .outgrown, _, _, h => h
attribute [local go_sem] Oper.semAt_some
def ops_9_1 : Array Go.Oper := #[
  { dst := some 12, op := Go.Op.move (Go.Operand.tmp 0), type := 26, pos := "score.go:53", after := #[], guard := none },
  { dst := some 13, op := Go.Op.move (Go.Operand.tmp 1), type := 28, pos := "score.go:53", after := #[], guard := none },
  { dst := some 14, op := Go.Op.call { callee := Go.Callee.value (Go.Operand.func 29), args := #[Go.Operand.tmp 12, Go.Operand.tmp 13], argTypes := #[26, 28] }, type := 37, pos := "score.go:53", after := #[{ on := 0, ground := Go.Ground.data }, { on := 1, ground := Go.Ground.data }], guard := none },
  { dst := some 15, op := Go.Op.load 32 (Go.Operand.tmp 5), type := 32, pos := "score.go:53", after := #[], guard := none },
  { dst := some 16, op := Go.Op.call { callee := Go.Callee.value (Go.Operand.func 16), args := #[Go.Operand.tmp 15], argTypes := #[32] }, type := 37, pos := "score.go:53", after := #[{ on := 3, ground := Go.Ground.data }, { on := 2, ground := Go.Ground.chain }], guard := none },
  { dst := some 17, op := Go.Op.buildSlice 70 2 #[(0, Go.Operand.tmp 14), (1, Go.Operand.tmp 16)], type := 70, pos := "score.go:53", after := #[{ on := 2, ground := Go.Ground.data }, { on := 4, ground := Go.Ground.data }], guard := none },
  { dst := some 18, op := Go.Op.call { callee := Go.Callee.value (Go.Operand.func 28), args := #[Go.Operand.tmp 17], argTypes := #[70] }, type := 37, pos := "score.go:53", after := #[{ on := 5, ground := Go.Ground.data }, { on := 4, ground := Go.Ground.chain }], guard := none },
  { dst := some 8, op := Go.Op.assign (Go.Operand.tmp 18), type := 37, pos := "score.go:53", after := #[{ on := 6, ground := Go.Ground.data }, { on := 6, ground := Go.Ground.chain }, { on := 0, ground := Go.Ground.phase }, { on := 1, ground := Go.Ground.phase }, { on := 2, ground := Go.Ground.phase }, { on := 3, ground := Go.Ground.phase }, { on := 4, ground := Go.Ground.phase }, { on := 5, ground := Go.Ground.phase }, { on := 6, ground := Go.Ground.phase }], guard := none }]
theorem ops_9_1_0 : ops_9_1[0]? = some ({ dst := some 12, op := Go.Op.move (Go.Operand.tmp 0), type := 26, pos := "score.go:53", after := #[], guard := none } : Go.Oper) := rfl
theorem ops_9_1_1 : ops_9_1[1]? = some ({ dst := some 13, op := Go.Op.move (Go.Operand.tmp 1), type := 28, pos := "score.go:53", after := #[], guard := none } : Go.Oper) := rfl
theorem ops_9_1_2 : ops_9_1[2]? = some ({ dst := some 14, op := Go.Op.call { callee := Go.Callee.value (Go.Operand.func 29), args := #[Go.Operand.tmp 12, Go.Operand.tmp 13], argTypes := #[26, 28] }, type := 37, pos := "score.go:53", after := #[{ on := 0, ground := Go.Ground.data }, { on := 1, ground := Go.Ground.data }], guard := none } : Go.Oper) := rfl
theorem ops_9_1_3 : ops_9_1[3]? = some ({ dst := some 15, op := Go.Op.load 32 (Go.Operand.tmp 5), type := 32, pos := "score.go:53", after := #[], guard := none } : Go.Oper) := rfl
theorem ops_9_1_4 : ops_9_1[4]? = some ({ dst := some 16, op := Go.Op.call { callee := Go.Callee.value (Go.Operand.func 16), args := #[Go.Operand.tmp 15], argTypes := #[32] }, type := 37, pos := "score.go:53", after := #[{ on := 3, ground := Go.Ground.data }, { on := 2, ground := Go.Ground.chain }], guard := none } : Go.Oper) := rfl
theorem ops_9_1_5 : ops_9_1[5]? = some ({ dst := some 17, op := Go.Op.buildSlice 70 2 #[(0, Go.Operand.tmp 14), (1, Go.Operand.tmp 16)], type := 70, pos := "score.go:53", after := #[{ on := 2, ground := Go.Ground.data }, { on := 4, ground := Go.Ground.data }], guard := none } : Go.Oper) := rfl
theorem ops_9_1_6 : ops_9_1[6]? = some ({ dst := some 18, op := Go.Op.call { callee := Go.Callee.value (Go.Operand.func 28), args := #[Go.Operand.tmp 17], argTypes := #[70] }, type := 37, pos := "score.go:53", after := #[{ on := 5, ground := Go.Ground.data }, { on := 4, ground := Go.Ground.chain }], guard := none } : Go.Oper) := rfl
theorem ops_9_1_7 : ops_9_1[7]? = some ({ dst := some 8, op := Go.Op.assign (Go.Operand.tmp 18), type := 37, pos := "score.go:53", after := #[{ on := 6, ground := Go.Ground.data }, { on := 6, ground := Go.Ground.chain }, { on := 0, ground := Go.Ground.phase }, { on := 1, ground := Go.Ground.phase }, { on := 2, ground := Go.Ground.phase }, { on := 3, ground := Go.Ground.phase }, { on := 4, ground := Go.Ground.phase }, { on := 5, ground := Go.Ground.phase }, { on := 6, ground := Go.Ground.phase }], guard := none } : Go.Oper) := rfl
theorem ops_9_1_ns : Go.Region.noSelect ops_9_1 = true := by kernel_rfl
def ops_9_9 : Array Go.Oper := #[
  { dst := some 30, op := Go.Op.load 40 (Go.Operand.tmp 9), type := 40, pos := "score.go:59", after := #[], guard := none },
  { dst := some 31, op := Go.Op.move (Go.Operand.tmp 10), type := 9, pos := "score.go:59", after := #[], guard := none },
  { dst := some 32, op := Go.Op.move (Go.Operand.tmp 11), type := 3, pos := "score.go:59", after := #[], guard := none },
  { dst := some 33, op := Go.Op.call { callee := Go.Callee.value (Go.Operand.func 30), args := #[Go.Operand.tmp 32], argTypes := #[3] }, type := 36, pos := "score.go:59", after := #[{ on := 2, ground := Go.Ground.data }], guard := none },
  { dst := some 34, op := Go.Op.call { callee := Go.Callee.value (Go.Operand.func 33), args := #[Go.Operand.tmp 33], argTypes := #[36] }, type := 9, pos := "score.go:59", after := #[{ on := 3, ground := Go.Ground.data }, { on := 3, ground := Go.Ground.chain }], guard := none },
  { dst := some 35, op := Go.Op.build 51 #[(0, Go.Operand.tmp 31), (1, Go.Operand.tmp 34)], type := 51, pos := "score.go:59", after := #[{ on := 1, ground := Go.Ground.data }, { on := 4, ground := Go.Ground.data }], guard := none },
  { dst := some 36, op := Go.Op.buildSlice 40 1 #[(0, Go.Operand.tmp 35)], type := 40, pos := "score.go:59", after := #[{ on := 5, ground := Go.Ground.data }], guard := none },
  { dst := some 37, op := Go.Op.call { callee := Go.Callee.builtin Go.Builtin.append, args := #[Go.Operand.tmp 30, Go.Operand.tmp 36], argTypes := #[40, 40] }, type := 40, pos := "score.go:59", after := #[{ on := 0, ground := Go.Ground.data }, { on := 6, ground := Go.Ground.data }, { on := 4, ground := Go.Ground.chain }], guard := none },
  { dst := none, op := Go.Op.store 40 (Go.Operand.tmp 9) (Go.Operand.tmp 37), type := 0, pos := "score.go:59", after := #[{ on := 7, ground := Go.Ground.data }, { on := 7, ground := Go.Ground.chain }, { on := 0, ground := Go.Ground.phase }, { on := 1, ground := Go.Ground.phase }, { on := 2, ground := Go.Ground.phase }, { on := 3, ground := Go.Ground.phase }, { on := 4, ground := Go.Ground.phase }, { on := 5, ground := Go.Ground.phase }, { on := 6, ground := Go.Ground.phase }, { on := 7, ground := Go.Ground.phase }], guard := none }]
theorem ops_9_9_0 : ops_9_9[0]? = some ({ dst := some 30, op := Go.Op.load 40 (Go.Operand.tmp 9), type := 40, pos := "score.go:59", after := #[], guard := none } : Go.Oper) := rfl
theorem ops_9_9_1 : ops_9_9[1]? = some ({ dst := some 31, op := Go.Op.move (Go.Operand.tmp 10), type := 9, pos := "score.go:59", after := #[], guard := none } : Go.Oper) := rfl
theorem ops_9_9_2 : ops_9_9[2]? = some ({ dst := some 32, op := Go.Op.move (Go.Operand.tmp 11), type := 3, pos := "score.go:59", after := #[], guard := none } : Go.Oper) := rfl
theorem ops_9_9_3 : ops_9_9[3]? = some ({ dst := some 33, op := Go.Op.call { callee := Go.Callee.value (Go.Operand.func 30), args := #[Go.Operand.tmp 32], argTypes := #[3] }, type := 36, pos := "score.go:59", after := #[{ on := 2, ground := Go.Ground.data }], guard := none } : Go.Oper) := rfl
theorem ops_9_9_4 : ops_9_9[4]? = some ({ dst := some 34, op := Go.Op.call { callee := Go.Callee.value (Go.Operand.func 33), args := #[Go.Operand.tmp 33], argTypes := #[36] }, type := 9, pos := "score.go:59", after := #[{ on := 3, ground := Go.Ground.data }, { on := 3, ground := Go.Ground.chain }], guard := none } : Go.Oper) := rfl
theorem ops_9_9_5 : ops_9_9[5]? = some ({ dst := some 35, op := Go.Op.build 51 #[(0, Go.Operand.tmp 31), (1, Go.Operand.tmp 34)], type := 51, pos := "score.go:59", after := #[{ on := 1, ground := Go.Ground.data }, { on := 4, ground := Go.Ground.data }], guard := none } : Go.Oper) := rfl
theorem ops_9_9_6 : ops_9_9[6]? = some ({ dst := some 36, op := Go.Op.buildSlice 40 1 #[(0, Go.Operand.tmp 35)], type := 40, pos := "score.go:59", after := #[{ on := 5, ground := Go.Ground.data }], guard := none } : Go.Oper) := rfl
theorem ops_9_9_7 : ops_9_9[7]? = some ({ dst := some 37, op := Go.Op.call { callee := Go.Callee.builtin Go.Builtin.append, args := #[Go.Operand.tmp 30, Go.Operand.tmp 36], argTypes := #[40, 40] }, type := 40, pos := "score.go:59", after := #[{ on := 0, ground := Go.Ground.data }, { on := 6, ground := Go.Ground.data }, { on := 4, ground := Go.Ground.chain }], guard := none } : Go.Oper) := rfl
theorem ops_9_9_8 : ops_9_9[8]? = some ({ dst := none, op := Go.Op.store 40 (Go.Operand.tmp 9) (Go.Operand.tmp 37), type := 0, pos := "score.go:59", after := #[{ on := 7, ground := Go.Ground.data }, { on := 7, ground := Go.Ground.chain }, { on := 0, ground := Go.Ground.phase }, { on := 1, ground := Go.Ground.phase }, { on := 2, ground := Go.Ground.phase }, { on := 3, ground := Go.Ground.phase }, { on := 4, ground := Go.Ground.phase }, { on := 5, ground := Go.Ground.phase }, { on := 6, ground := Go.Ground.phase }, { on := 7, ground := Go.Ground.phase }], guard := none } : Go.Oper) := rfl
theorem ops_9_9_ns : Go.Region.noSelect ops_9_9 = true := by kernel_rfl
set_option maxRecDepth 100000 in
set_option maxHeartbeats 8000000 in
theorem parts_calls (lo lo' lo3 : Nat) (v kv x : Value) (rs : List RD) (ks : List ByteArray) (l : LD) (w : World) (hR : Rls w lo v rs) (hs : ∀ r ∈ rs, SmallR r) (hn : rs.length ≤ 1000) (hK : Strs w lo' kv ks) (hk : ∀ k ∈ ks, k.size ≤ 1000) (hkn : ks.length ≤ 1000000) (hT : Tds w lo3 x l.stats) (hl : SmallL l) (hD : DigB w) :
    Calls Tryd.prog 9 #[v, kv, lnV l x] w fun e w' => ∃ v', e = .returned (.tuple #[v', .int .i64 (ptsE rs ks l)]) ∧ Prs w' w.heap.size v' (ptsP rs ks l) ∧ Below w.heap.size w w' := by
  obtain ⟨i0, hi, hz0, hz1, hz2⟩ := info_parts info_pr'
  obtain ⟨ra, rc, rfl⟩ := rls_shape hR
  obtain ⟨ka, kc, rfl⟩ := strs_shape hK
  obtain ⟨xa, xc, rfl⟩ := tds_shape hT
  refine (callsIn_wide (n := 3)).1 ?_
  obtain ⟨W, hW⟩ : ∃ W, W = w.alloc (.cells #[.string l.player, .int .i64 l.week, .slice xa l.stats.length xc] 32) := ⟨_, rfl⟩
  have hwW : Below w.heap.size w W := by rw [hW]; exact below_alloc w _
  have hx : W.heap[w.heap.size]? = some (.cells #[.string l.player, .int .i64 l.week, .slice xa l.stats.length xc] 32 (0, 0)) := by rw [hW]; exact heap_alloc_new w _
  have x0 := cell_at hx 0 rfl
  have x1 := cell_at hx 1 rfl
  have x2 := cell_at hx 2 rfl
  have HS := Lib.hid (show ∀ w', Below W.heap.size W w' → (Below W.heap.size W w' ∧ w'.cell? ⟨w.heap.size, 0, none⟩ = some (.string l.player) ∧ w'.cell? ⟨w.heap.size, 1, none⟩ = some (.int .i64 l.week) ∧ w'.cell? ⟨w.heap.size, 2, none⟩ = some (.slice xa l.stats.length xc)) from fun w' hb => ⟨hb, below_cell hb x0, below_cell hb x1, below_cell hb x2⟩)
  have C1 := Lib.hid (fun w' (hb : Below W.heap.size W w') => wrongRules_calls lo lo' _ _ rs ks w' (hR.below (below_step hwW hb)) hs (by omega) (hK.below (below_step hwW hb)) hk hkn)
  have C2 := Lib.hid (fun w' (hb : Below W.heap.size W w') => checkLine_calls lo3 l _ w' (hT.below (below_step hwW hb)) hl)
  have HFit := Lib.hid (fun (h : ptsE rs ks l = 0) => fit_of (firstE_all0 (firstE_all0 h (wrE rs ks) (by simp)) (chkRl rs) (by simp)) (firstE_all0 h (lnE l) (by simp)))
  have HRR := Lib.hid hR
  have HKK := Lib.hid hK
  have HTT := Lib.hid hT
  have HSm := Lib.hid hs
  have Hn := Lib.hid hn
  have HD := Lib.hid (fun w' (hb : Below w.heap.size w w') => hD.below hb)
  have HF0 := Lib.hid (fun (h : ptsE rs ks l ≠ 0) => (show ptsP rs ks l = [] by unfold ptsP; rw [if_neg h]))
  have HF1 := Lib.hid (fun (h : ptsE rs ks l = 0) => (show ptsP rs ks l = prtsI l.stats (rs.filter (appB ks)) by unfold ptsP; rw [if_pos h]))
  have HE := Lib.hid (show firstE [wrE rs ks, lnE l] = ptsE rs ks l from rfl)
  have HwW := Lib.hid hwW
  have Hszw := Lib.hid (show W.heap.size = w.heap.size + 1 by rw [hW]; simp)
  have hb0 := (Below.refl W.heap.size W).drew
  clear hR hs hn hK hk hkn hT hl hx x0 x1 x2 hD hwW
  generalize wrE rs ks = E1 at C1 HE
  unfold lnV at C2 ⊢
  generalize lnE l = E2 at C2 HE
  generalize ptsE rs ks l = E at HFit HF0 HF1 HE ⊢
  generalize ptsP rs ks l = R at HF0 HF1 ⊢
  refine callsIn_of_wp_marks Tryd.func9 rfl trivial ?_ rfl
  simp only [Tryd.ntmps9, List.size_toArray, List.length_cons, List.length_nil, Nat.reduceAdd, Nat.reduceSub, Array.replicate_succ, Array.replicate_zero, List.push_toArray, List.append_toArray, List.nil_append, List.cons_append]
  refine Code.wpIn_mono (Q := noPan (bodyPostM Fence.wide 3 Tryd.prog Tryd.f9 _)) noPan_le ?_
  gi_wp2_with fail
  rw [← hW]
  clear hW
  show Code.wpIn _ _ _ (Code.region 1 ops_9_1 true) _ _ _
  refine regionIn_start 8 (fun w' => Below W.heap.size W w' ∧ w'.cell? ⟨w.heap.size, 0, none⟩ = some (.string l.player) ∧ w'.cell? ⟨w.heap.size, 1, none⟩ = some (.int .i64 l.week) ∧ w'.cell? ⟨w.heap.size, 2, none⟩ = some (.slice xa l.stats.length xc)) (fun j => [2, 3].contains j) (by kernel_rfl) rfl ?_
  refine takeIn 0 12 (v := ?_) ops_9_1_0 rfl ops_9_1_ns (by kernel_rfl) (by kernel_rfl) (by rfl) rfl (fun _ => rfl) (fun _ _ _ h => h) (by rfl) ?y0 ?_
  case y0 =>
    intro w
    go_simp
    try with_reducible rfl
  simp only [List.set_cons_zero, List.set_cons_succ]
  refine takeIn 1 13 (v := ?_) ops_9_1_1 rfl ops_9_1_ns (by kernel_rfl) (by kernel_rfl) (by rfl) rfl (fun _ => rfl) (fun _ _ _ h => h) (by rfl) ?y1 ?_
  case y1 =>
    intro w
    go_simp
    try with_reducible rfl
  simp only [List.set_cons_zero, List.set_cons_succ]
  refine loadIn 3 15 (v := ?_) ops_9_1_3 rfl ops_9_1_ns (by kernel_rfl) (by kernel_rfl) (by kernel_rfl) rfl (fun _ => rfl) (fun _ _ _ h => h) (by rfl) ?y3 (by exact HS.out _ hb0) ?_
  case y3 =>
    intro w hSw
    try dsimp only at hSw
    go_simp
    try with_reducible rfl
  simp only [List.set_cons_zero, List.set_cons_succ]
  refine runIn 2 ops_9_1_2 (by kernel_rfl) (by rfl) (fun K hK => ?_)
  go_simp
  refine ⟨trivial, (callsIn_wide.2 (C1.out _ hb0)).mono ?_⟩
  rintro e w' ⟨rfl, hb'⟩
  replace hb0 := below_step hb0 hb'
  clear hb'
  refine hK.out _ _ (fun _ => ?_) ?_
  · (exact HS.out _ hb0)
  clear hK K
  try simp only [Act.put, List.setIfInBounds_toArray, List.set_cons_zero, List.set_cons_succ]
  refine runIn 4 ops_9_1_4 (by kernel_rfl) (by rfl) (fun K hK => ?_)
  go_simp
  refine ⟨trivial, (callsIn_wide.2 (C2.out _ hb0)).mono ?_⟩
  rintro e w' ⟨rfl, hb'⟩
  replace hb0 := below_step hb0 hb'
  clear hb'
  refine hK.out _ _ (fun h => absurd h (by decide)) ?_
  clear hK K
  try simp only [Act.put, List.setIfInBounds_toArray, List.set_cons_zero, List.set_cons_succ]
  refine runIn 5 ops_9_1_5 (by kernel_rfl) (by rfl) (fun K hK => ?_)
  go_simp
  replace hb0 := below_step hb0 (below_alloc _ (.cells #[.int .i64 E1, .int .i64 E2] 37))
  refine hK.out _ _ (fun h => absurd h (by decide)) ?_
  clear hK K
  try simp only [Act.put, List.setIfInBounds_toArray, List.set_cons_zero, List.set_cons_succ]
  refine runIn 6 ops_9_1_6 (by kernel_rfl) (by rfl) (fun K hK => ?_)
  go_simp
  refine ⟨trivial, (callsIn_wide.2 (orE_calls _ 0 2 [E1, E2] _ (by simp) (by exact nums2 _ _ _ _))).mono ?_⟩
  rintro e w' ⟨rfl, rfl⟩
  rw [HE.out]
  refine hK.out _ _ (fun h => absurd h (by decide)) ?_
  clear hK K
  try simp only [Act.put, List.setIfInBounds_toArray, List.set_cons_zero, List.set_cons_succ]
  refine takeIn 7 8 (v := ?_) ops_9_1_7 rfl ops_9_1_ns (by kernel_rfl) (by kernel_rfl) (by rfl) rfl (fun _ => rfl) (fun _ _ _ h => h) (by rfl) ?y7 ?_
  case y7 =>
    intro w
    go_simp
    try with_reducible rfl
  simp only [List.set_cons_zero, List.set_cons_succ]
  refine doneIn (by kernel_rfl) ?_ _
  generalize w'.alloc (.cells #[.int .i64 E1, .int .i64 E2] 37) = V at hb0 ⊢
  by_cases hz : E = 0
  · have e1 : (E != 0) = false := by simp [hz]
    have HFt := Lib.hid (HFit.out hz)
    have HR := HF1.out hz
    subst HR
    have Hz := Lib.hid hz
    have HbW := Lib.hid hb0
    clear hz hb0 C1 C2 HF0 HF1 HFit
    gi_upto_region 5 with fail
    obtain ⟨W2, hW2⟩ : ∃ W2, W2 = V.alloc (.cells #[.slice none 0 0] 40) := ⟨_, rfl⟩
    obtain ⟨B, hB⟩ : ∃ B, B = V.heap.size := ⟨_, rfl⟩
    rw [← hW2, ← hB]
    have hb2 : Below W.heap.size W W2 := by rw [hW2]; exact below_step HbW.out (below_alloc V _)
    have hs2 : W2.heap.size = B + 1 := by rw [hW2, hB]; simp
    have hBw : w.heap.size < B := by rw [hB]; have := HbW.out.size; have := Hszw.out; omega
    have hv2 : Boxed W2 B 40 (.slice none 0 0) := by rw [hW2, hB]; exact Boxed.new V _ _
    obtain ⟨-, x0, x1, x2⟩ := HS.out _ hb2
    have C := Lib.hid (fun w => gifts_calls (.slice ra rs.length rc) (.slice ka ks.length kc) l (.slice xa l.stats.length xc) w rfl rfl rfl)
    unfold lnV at C
    have Hb2 := Lib.hid hb2
    have Hs2 := Lib.hid hs2
    have HBw := Lib.hid hBw
    have Hv2 := Lib.hid hv2
    clear hW2 hB hb2 hs2 hBw hv2
    gi_wp2_with fail
    refine ⟨trivial, (callsIn_wide.2 (C.out W2)).mono ?_⟩
    rintro e W3 ⟨rfl, hW3⟩
    have hs3 : W3.heap.size = B + 4 := by rw [hW3]; have := Hs2.out; simp; omega
    have hb23 : Below W2.heap.size W2 W3 := by
      rw [hW3]; exact ((below_alloc W2 _).trans ((below_alloc _ _).mono (by simp))).trans ((below_alloc _ _).mono (by simp; omega))
    have hb3 : Below w.heap.size w W3 := below_step (below_step HwW.out Hb2.out) hb23
    have hv3 : Boxed W3 B 40 (.slice none 0 0) := Hv2.out.kept (gb_below hb23 none) (by simp)
    have hBw := HBw.out
    have hs2 := Hs2.out
    have hc0 : W3.cell? ⟨W2.heap.size, 0, none⟩ = some (.slice ra rs.length rc) := by
      rw [hW3, World.cell?_alloc_past _ _ _ (by simp; omega), World.cell?_alloc_past _ _ _ (by simp), World.cell?_alloc_at _ _ _ _ rfl]; rfl
    have hc1 : W3.cell? ⟨W2.heap.size + 1, 0, none⟩ = some (.slice ka ks.length kc) := by
      rw [hW3, World.cell?_alloc_past _ _ _ (by simp), World.cell?_alloc_at _ _ _ _ (by simp)]; rfl
    have hc2 : ∀ (o : Nat) (u : Value), (#[Value.string l.player, .int .i64 l.week, .slice xa l.stats.length xc] : Array Value)[o]? = some u → W3.cell? ⟨W2.heap.size + 2, o, none⟩ = some u := by
      intro o u hu
      rw [hW3, World.cell?_alloc_at _ _ _ _ (by simp)]; exact hu
    have hlift : ∀ W', Kept (B + 4) B W3 W' → ∀ k, k < w.heap.size → W'.heap[k]? = w.heap[k]? := fun W' h k hk => (h.block k (by omega) (by omega)).trans (hb3.block k hk)
    have hRk : ∀ W', Kept (B + 4) B W3 W' → Rls W' lo (.slice ra rs.length rc) rs := fun W' h => Rows.lift HRR.out fun g cur fr _ hg => hlift W' h g (lt_of_heap hg)
    have hKk : ∀ W', Kept (B + 4) B W3 W' → Strs W' lo' (.slice ka ks.length kc) ks := fun W' h => Rows.lift HKK.out fun g cur fr _ hg => hlift W' h g (lt_of_heap hg)
    have hTk : ∀ W', Kept (B + 4) B W3 W' → Tds W' lo3 (.slice xa l.stats.length xc) l.stats := fun W' h => Rows.lift HTT.out fun g cur fr _ hg => hlift W' h g (lt_of_heap hg)
    have hgR : ∀ g off m c, Value.slice ra rs.length rc = .slice (some ⟨g, off, none⟩) m c → g < B + 4 ∧ g ≠ B := by
      intro g off m c e
      rcases rls_at HRR.out with ⟨h, _⟩ | ⟨g', off', cap', e', _, hg', _⟩
      · rw [h] at e; cases e
      · rw [e'] at e
        simp only [Value.slice.injEq, Option.some.injEq, Addr.mk.injEq, and_true] at e
        omega
    have HSt := Lib.hid (gifts_stops 2 (B + 4) B W2.heap.size (W2.heap.size + 1) (W2.heap.size + 2) lo lo' lo3 rs (.slice ra rs.length rc) (.slice ka ks.length kc) ks l (.slice xa l.stats.length xc) (by omega) (by have := Hn.out; omega) HFt.out HSm.out W3 (by omega) (by omega) (by omega) hgR hc0 hc1 ⟨hc2 0 _ rfl, hc2 1 _ rfl, hc2 2 _ rfl⟩ hRk hKk hTk)
    have Hs3 := Lib.hid hs3
    have Hb3 := Lib.hid hb3
    have Hv3 := Lib.hid hv3
    clear hW3 hs3 hb23 hb3 hv3 hBw hs2 hc0 hc1 hc2 hlift hRk hKk hTk hgR x0 x1 x2 C
    gi_wp2_with fail
    refine wpIn_rangeFunc_ownG rfl (by omega) (gf := 55) (lb := #[.pointer (some ⟨W2.heap.size, 0, none⟩), .pointer (some ⟨W2.heap.size + 1, 0, none⟩), .pointer (some ⟨W2.heap.size + 2, 0, none⟩)]) rfl trivial (enters_of Tryd.func55 (by kernel_rfl) rfl)
      HSt.out (fun h k => h.trans k) ?keep (Below.refl _ _) (fun _ => rfl)
      (fun pre W => (∃ v, Boxed W B 40 v ∧ W.ownsRow (B + 4) 51 2 v (prtsI l.stats (pre.map (·.1))).length ((prtsI l.stats (pre.map (·.1))).map prRow).flatten) ∧ Below w.heap.size w W ∧ B + 4 ≤ W.heap.size) (fun _ _ _ => False) ?own (fun _ _ _ _ _ hs _ _ => hs) ?start
      (fun x => { tmps := #[(.slice ra rs.length rc), (.slice ka ks.length kc), (.agg #[.string l.player, .int .i64 l.week, .slice xa l.stats.length xc]), undef, undef, (.pointer (some ⟨w.heap.size, 0, none⟩)), (.slice none 0 0), (.int .i64 0), (.int .i64 E), (.pointer (some ⟨B, 0, none⟩)), (.string x.1.key), (.int .i64 (givenI l.stats x.1)), (.slice ra rs.length rc), (.slice ka ks.length kc), (.int .i64 E1), (.agg #[.string l.player, .int .i64 l.week, .slice xa l.stats.length xc]), (.int .i64 E2), (.slice (some ⟨w'.heap.size, 0, none⟩) 2 2), (.int .i64 E), (.int .i64 E), (.bool false), undef, (.slice ra rs.length rc), (.slice ka ks.length kc), (.agg #[.string l.player, .int .i64 l.week, .slice xa l.stats.length xc]), (.func (.func 55) #[] #[.pointer (some ⟨W2.heap.size, 0, none⟩), .pointer (some ⟨W2.heap.size + 1, 0, none⟩), .pointer (some ⟨W2.heap.size + 2, 0, none⟩)]), (.string x.1.key), (.int .i64 (givenI l.stats x.1)), undef, undef, undef, undef, undef, undef, undef, undef, undef, undef, undef], defers := [] }) ?assign ?body ?done ?stop
    case keep =>
      intro W l o o' hl ho _ _
      have hg := grownBy_putObj' W l o'
      have h3 := Hs3.out
      refine ⟨hg.size, fun k hk _ => hg.block k ?_ ?_⟩
      · have := lt_of_heap ho; omega
      · intro e; cases e; omega
    case own =>
      intro s A D row hs hg hr
      have h3 := Hs3.out
      have h4 := HBw.out
      obtain ⟨⟨v, hv, hrow⟩, hB, hsz⟩ := hs
      refine ⟨⟨v, hv.kept hg (fun e => ?_), hrow.kept hg (by
        rcases hrow.2 with ⟨rfl, _⟩ | ⟨g, cap, cur, rfl, _, hgb, _⟩
        · exact .inl rfl
        · refine .inr fun e' => ?_
          obtain ⟨o, ho, hc⟩ := (hr g (by simpa [Value.ownBlock] using e'.symm)).2
          rw [hgb] at ho; cases ho; cases hc)⟩, hB.grown hg hB.size fun r e => ?_, Nat.le_trans hsz hg.size⟩
      · have := (hr B e.symm).1; omega
      · have := (hr r e).1; omega
    case start => exact ⟨⟨_, Hv3.out, World.ownsRow_nil _ _ _ _⟩, Hb3.out, by have := Hs3.out; omega⟩
    case assign =>
      intro l x W K hK
      unfold encG
      gi_wp2
      exact hK
    case body =>
      rintro l0 pre x W0 ⟨⟨v, hv, hrow⟩, hB, hsz0⟩ hl0
      have hx := x.2.giv
      have hpl := prtsI_len l.stats (pre.map (·.1))
      have hl1 : (prtsI l.stats (pre.map (·.1))).length ≤ 1000 := by have := Hn.out; rw [List.length_map] at hpl; omega
      have Hsn := Lib.hid (show prtsI l.stats ((pre ++ [x]).map (·.1)) = prtsI l.stats (pre.map (·.1)) ++ prtI l.stats x.1 by rw [List.map_append]; exact prtsI_snoc _ _ _)
      have Hpt := Lib.hid (show prtI l.stats x.1 = if givenI l.stats x.1 = 0 then [] else [⟨x.1.key, frS (lowF (givenI l.stats x.1) 100)⟩] from rfl)
      generalize prtsI l.stats (pre.map (·.1)) = A at hrow hpl hl1 Hsn
      generalize givenI l.stats x.1 = Q at hx Hpt ⊢
      generalize x.1.key = key at Hpt ⊢
      clear hpl hl0
      by_cases hzq : Q = 0
      · have e2 : (Q != 0) = false := by simp [hzq]
        have HP2 := Lib.hid (show prtsI l.stats ((pre ++ [x]).map (·.1)) = A by rw [Hsn.out, Hpt.out, if_pos hzq, List.append_nil])
        clear hzq hx
        gi_wp2_with fail
        exact ⟨KeepsFrom.refl _ _, Kept.refl _ _ _, ⟨v, hv, by rw [HP2.out]; exact hrow⟩, hB, hsz0⟩
      have e2 : (Q != 0) = true := by simp [hzq]
      have HP2 := Lib.hid (show prtsI l.stats ((pre ++ [x]).map (·.1)) = A ++ [⟨key, frS (lowF Q 100)⟩] by rw [Hsn.out, Hpt.out, if_neg hzq])
      obtain ⟨va, vc, rfl⟩ := owns_shape hrow
      have hq64 : Int64 Q := by unfold Int64; omega
      obtain ⟨L, hL⟩ : ∃ L, L = lowF Q 100 := ⟨_, rfl⟩
      have hL1 : Int64 L.1 := by rw [hL]; exact (low_64 hq64).1
      have hL2 : Int64 L.2 := by rw [hL]; exact hun64' (low_64 hq64).2
      rw [← hL] at HP2
      have HL := Lib.hid hL.symm
      clear hL hzq hx Hsn Hpt
      obtain ⟨l1, l2⟩ := L
      obtain ⟨T, hT⟩ : ∃ T, T = frS (l1, l2) := ⟨_, rfl⟩
      rw [← hT] at HP2
      have HT := Lib.hid hT.symm
      clear hT
      have HBX := Lib.hid (fun w' (hb : Below W0.heap.size W0 w') => below_cell hb hv.cell)
      have Hrow := Lib.hid hrow
      have Hv := Lib.hid hv
      have HB := Lib.hid hB
      have Hsz0 := Lib.hid hsz0
      have hb0 := (Below.refl W0.heap.size W0).drew
      clear hv hrow hB hsz0
      gi_wp2_with fail
      clear e2
      show Code.wpIn _ _ _ (Code.region 9 ops_9_9 true) _ _ _
      refine regionIn_start 9 (fun w' => w'.cell? ⟨B, 0, none⟩ = some (.slice va A.length vc)) (fun j => [0, 3, 4, 5, 6].contains j) (by kernel_rfl) rfl ?_
      refine takeInR 1 31 (v := ?_) ops_9_9_1 rfl ops_9_9_ns (by kernel_rfl) (by kernel_rfl) (by rfl) (by kernel_rfl) (fun _ => rfl) (fun _ _ _ h => h) (by rfl) ?y1 ?_
      case y1 =>
        intro w
        go_simp
        try with_reducible rfl
      simp only [List.set_cons_zero, List.set_cons_succ]
      refine takeInR 2 32 (v := ?_) ops_9_9_2 rfl ops_9_9_ns (by kernel_rfl) (by kernel_rfl) (by rfl) (by kernel_rfl) (fun _ => rfl) (fun _ _ _ h => h) (by rfl) ?y2 ?_
      case y2 =>
        intro w
        go_simp
        try with_reducible rfl
      simp only [List.set_cons_zero, List.set_cons_succ]
      refine loadInR 0 30 (v := ?_) ops_9_9_0 rfl ops_9_9_ns (by kernel_rfl) (by kernel_rfl) (by kernel_rfl) (by kernel_rfl) (fun _ => rfl) (fun _ _ _ h => h) (by rfl) ?y0 (by exact HBX.out _ hb0) ?_
      case y0 =>
        intro w hSw
        try dsimp only at hSw
        go_simp
        try with_reducible rfl
      simp only [List.set_cons_zero, List.set_cons_succ]
      refine runIn 3 ops_9_9_3 (by kernel_rfl) (by rfl) (fun K hK => ?_)
      go_simp
      refine ⟨trivial, (callsIn_wide.2 (ofHundredths_calls Q _ hq64)).mono ?_⟩
      rintro e w' ⟨rfl, hb'⟩
      replace hb0 := below_step hb0 hb'
      clear hb'
      rw [HL.out]
      unfold frV
      dsimp only
      refine hK.out _ _ (fun _ => ?_) ?_
      · (exact HBX.out _ hb0)
      clear hK K
      try simp only [Act.put, List.setIfInBounds_toArray, List.set_cons_zero, List.set_cons_succ]
      refine runIn 4 ops_9_9_4 (by kernel_rfl) (by rfl) (fun K hK => ?_)
      go_simp
      refine ⟨trivial, (callsIn_wide.2 (write_calls l1 l2 _ hL1 hL2 (HD.out _ (below_step HB.out hb0)))).mono ?_⟩
      rintro e w' ⟨rfl, hb'⟩
      replace hb0 := below_step hb0 hb'
      clear hb'
      rw [HT.out]
      refine hK.out _ _ (fun _ => ?_) ?_
      · (exact HBX.out _ hb0)
      clear hK K
      try simp only [Act.put, List.setIfInBounds_toArray, List.set_cons_zero, List.set_cons_succ]
      refine runIn 5 ops_9_9_5 (by kernel_rfl) (by rfl) (fun K hK => ?_)
      go_simp
      refine hK.out _ _ (fun _ => ?_) ?_
      · (exact HBX.out _ hb0)
      clear hK K
      try simp only [Act.put, List.setIfInBounds_toArray, List.set_cons_zero, List.set_cons_succ]
      refine runIn 6 ops_9_9_6 (by kernel_rfl) (by rfl) (fun K hK => ?_)
      go_simp
      have hb6 := hb0
      replace hb0 := below_step hb0 (below_alloc w' (.cells #[.string key, .string T] 51))
      refine hK.out _ _ (fun _ => ?_) ?_
      · (exact HBX.out _ hb0)
      clear hK K
      try simp only [Act.put, List.setIfInBounds_toArray, List.set_cons_zero, List.set_cons_succ]
      refine runIn 7 ops_9_9_7 (by kernel_rfl) (by rfl) (fun K hK => ?_)
      have hrow6 := own_below Hrow.out hb6
      have hl1' := hl1
      refine wpIn_append_at _ (Operand.tmp 30) (Operand.tmp 36) 40 rfl (B + 4) 51 i0 (.agg #[.string ⟨#[]⟩, .string ⟨#[]⟩]) 2 32 Tryd.underlying40 hi hz0 hz1 hz2 rfl (by decide) _ _ _ rfl (hrow6.alloc _) ⟨w'.heap.size, 0, none⟩ 1 1 [.string key, .string T] rfl rfl (cells_new _ _ _) (by simp [Value.oneCell']) (by unfold maxLen; omega) (by omega) (by have := hb6.size; have := Hsz0.out; simp; omega) ?_
      intro v8 w8 hown8 hgrow
      obtain ⟨hv8, hko, hkp, hvb, hrb, hbb⟩ := box_step (n₀ := B + 4) hb6 Hv.out Hrow.out (Nat.le_refl _) Hsz0.out hown8 hgrow (by decide)
      have hc8 := hv8.cell
      have hf8 := hv8.frozen
      obtain ⟨g8, cap8, rfl⟩ := ownsRow_succ hown8
      refine hK.out _ _ (fun h => absurd h (by decide)) ?_
      clear hK K
      try simp only [Act.put, List.setIfInBounds_toArray, List.set_cons_zero, List.set_cons_succ]
      refine runIn 8 ops_9_9_8 (by kernel_rfl) (by rfl) (fun K hK => ?_)
      go_simp
      refine hK.out _ _ (fun h => absurd h (by decide)) ?_
      clear hK K
      try simp only [Act.put, List.setIfInBounds_toArray, List.set_cons_zero, List.set_cons_succ]
      refine doneIn (by kernel_rfl) ?_ _
      gi_wp2_with fail
      have hBw := HBw.out
      exact ⟨hko.from _, hkp, ⟨_, hvb, by rw [HP2.out]; simpa [prRow] using hrb⟩, hbb w.heap.size w (by omega) (by omega) (by have := Hsz0.out; omega) HB.out, Nat.le_trans Hsz0.out hko.size⟩
    case done =>
      rintro D xs W hD hS ⟨⟨v, hv, hrow⟩, hB, -⟩ hK
      rw [hS] at hrow
      have hlen := prtsI_len l.stats (rs.filter (appB ks))
      have hfl := List.length_filter_le (appB ks) rs
      obtain ⟨va, vc, rfl⟩ := owns_shape hrow
      have z0 := hv.cell
      have HP := Lib.hid (Rows.mono (prs_of_owns (ownsRow_putObj hrow (.deferred none) hK rfl) (by have := Hn.out; omega)) (show w.heap.size ≤ B + 4 by have := HBw.out; omega))
      have HB' := Lib.hid (hB.trans (belowK_b (w := w) (Nat.le_refl _) W D _ (.deferred none) (by have := Hs3.out; have := HBw.out; omega) hK rfl rfl))
      have HDD := Lib.hid hK
      clear hv hrow hB hS hlen hfl hK hD
      gi_wp2
      refine ⟨by simp, .inl ⟨_, _, rfl, run_takeDeferred HDD.out, ?_⟩⟩
      rw [Hz.out]
      exact ⟨_, results_tmp2 rfl _ _ _, _, rfl, HP.out, HB'.out⟩
    case stop =>
      rintro D c pre W _ _ h _
      exact h.elim
  · have e1 : (E != 0) = true := by simp [hz]
    have HR := HF0.out hz
    subst HR
    have Hb1 := Lib.hid (below_step HwW.out hb0)
    clear hz C1 C2 HF0 HF1 HFit hb0
    gi_wp2_with fail
    exact ⟨_, results_tmp2 rfl _ _ _, _, rfl, ⟨by simp, by simp, .inl ⟨rfl, rfl⟩⟩, Hb1.out⟩
end Go.Proofs.YtfakhapljjbbnaaDoor
