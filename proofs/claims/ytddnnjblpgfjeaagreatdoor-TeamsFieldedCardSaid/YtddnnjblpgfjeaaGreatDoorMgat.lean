/- Assets compared, ranked, picked out. -/
import Derived.Test.YtddnnjblpgfjeaaGreatDoorMgaq
import Derived.Test.YtddnnjblpgfjeaaGreatDoorMgas
import Derived.Test.YtddnnjblpgfjeaaGreatDoorMgac
import Derived.Test.YtddnnjblpgfjeaaGreatDoorMgag
import Derived.Test.YtddnnjblpgfjeaaGreatDoorMgad
namespace Go.Proofs.YtddnnjblpgfjeaaGreatDoor
open Go.RowKit

theorem nums3w (w : World) (T : Nat) (a b c : Int) : NumsAt (w.alloc (.cells #[.int .i64 a, .int .i64 b, .int .i64 c] T)) w.heap.size 0 [a, b, c] := by
 intro i x hx
 rw [World.cell?_alloc_at _ _ _ _ rfl]
 match i, hx with
 | 0, hx => simp at hx; subst hx; rfl
 | 1, hx => simp at hx; subst hx; rfl
 | 2, hx => simp at hx; subst hx; rfl
theorem then_first {a b : Int} : firstE [a, b] = if a = 0 then b else a := by
 unfold firstE firstE firstE
 split
 ·split
  ·rename_i h; exact h.symm
  ·rfl
 ·rfl
def o181_1 : Array Go.Oper := #[
 ⟨some 5, .fieldAddr 78 (.tmp 3) 2, 0, "value.go:54", #[], none⟩,
 ⟨some 6, .load 3 (.tmp 5), 3, "value.go:54", #[⟨0, .data⟩], none⟩,
 ⟨some 7, .fieldAddr 78 (.tmp 2) 2, 0, "value.go:54", #[], none⟩,
 ⟨some 8, .load 3 (.tmp 7), 3, "value.go:54", #[⟨2, .data⟩], none⟩,
 ⟨some 9, .call { callee := .value (.func 67), args := #[.tmp 6, .tmp 8], argTypes := #[3, 3] }, 3, "value.go:55", #[⟨1, .data⟩, ⟨3, .data⟩], none⟩,
 ⟨some 10, .fieldAddr 78 (.tmp 2) 0, 0, "value.go:54", #[], none⟩,
 ⟨some 11, .load 9 (.tmp 10), 9, "value.go:54", #[⟨5, .data⟩], none⟩,
 ⟨some 12, .fieldAddr 78 (.tmp 3) 0, 0, "value.go:54", #[], none⟩,
 ⟨some 13, .load 9 (.tmp 12), 9, "value.go:54", #[⟨7, .data⟩], none⟩,
 ⟨some 14, .call { callee := .value (.func 66), args := #[.tmp 11, .tmp 13], argTypes := #[9, 9] }, 3, "value.go:56", #[⟨6, .data⟩, ⟨8, .data⟩, ⟨4, .chain⟩], none⟩,
 ⟨some 15, .buildSlice 22 2 #[(0, .tmp 9), (1, .tmp 14)], 22, "value.go:54", #[⟨4, .data⟩, ⟨9, .data⟩], none⟩,
 ⟨some 16, .call { callee := .value (.func 65), args := #[.tmp 15], argTypes := #[22] }, 3, "value.go:54", #[⟨10, .data⟩, ⟨9, .chain⟩], none⟩,
 ⟨some 4, .assign (.tmp 16), 3, "value.go:54", #[⟨11, .data⟩, ⟨11, .chain⟩, ⟨0, .phase⟩, ⟨1, .phase⟩, ⟨2, .phase⟩, ⟨3, .phase⟩, ⟨4, .phase⟩, ⟨5, .phase⟩, ⟨6, .phase⟩, ⟨7, .phase⟩, ⟨8, .phase⟩, ⟨9, .phase⟩, ⟨10, .phase⟩, ⟨11, .phase⟩], none⟩]
theorem o181_1_0 : o181_1[0]? = some (⟨some 5, .fieldAddr 78 (.tmp 3) 2, 0, "value.go:54", #[], none⟩ : Go.Oper) := rfl
theorem o181_1_1 : o181_1[1]? = some (⟨some 6, .load 3 (.tmp 5), 3, "value.go:54", #[⟨0, .data⟩], none⟩ : Go.Oper) := rfl
theorem o181_1_2 : o181_1[2]? = some (⟨some 7, .fieldAddr 78 (.tmp 2) 2, 0, "value.go:54", #[], none⟩ : Go.Oper) := rfl
theorem o181_1_3 : o181_1[3]? = some (⟨some 8, .load 3 (.tmp 7), 3, "value.go:54", #[⟨2, .data⟩], none⟩ : Go.Oper) := rfl
theorem o181_1_4 : o181_1[4]? = some (⟨some 9, .call { callee := .value (.func 67), args := #[.tmp 6, .tmp 8], argTypes := #[3, 3] }, 3, "value.go:55", #[⟨1, .data⟩, ⟨3, .data⟩], none⟩ : Go.Oper) := rfl
theorem o181_1_5 : o181_1[5]? = some (⟨some 10, .fieldAddr 78 (.tmp 2) 0, 0, "value.go:54", #[], none⟩ : Go.Oper) := rfl
theorem o181_1_6 : o181_1[6]? = some (⟨some 11, .load 9 (.tmp 10), 9, "value.go:54", #[⟨5, .data⟩], none⟩ : Go.Oper) := rfl
theorem o181_1_7 : o181_1[7]? = some (⟨some 12, .fieldAddr 78 (.tmp 3) 0, 0, "value.go:54", #[], none⟩ : Go.Oper) := rfl
theorem o181_1_8 : o181_1[8]? = some (⟨some 13, .load 9 (.tmp 12), 9, "value.go:54", #[⟨7, .data⟩], none⟩ : Go.Oper) := rfl
theorem o181_1_9 : o181_1[9]? = some (⟨some 14, .call { callee := .value (.func 66), args := #[.tmp 11, .tmp 13], argTypes := #[9, 9] }, 3, "value.go:56", #[⟨6, .data⟩, ⟨8, .data⟩, ⟨4, .chain⟩], none⟩ : Go.Oper) := rfl
theorem o181_1_10 : o181_1[10]? = some (⟨some 15, .buildSlice 22 2 #[(0, .tmp 9), (1, .tmp 14)], 22, "value.go:54", #[⟨4, .data⟩, ⟨9, .data⟩], none⟩ : Go.Oper) := rfl
theorem o181_1_11 : o181_1[11]? = some (⟨some 16, .call { callee := .value (.func 65), args := #[.tmp 15], argTypes := #[22] }, 3, "value.go:54", #[⟨10, .data⟩, ⟨9, .chain⟩], none⟩ : Go.Oper) := rfl
theorem o181_1_12 : o181_1[12]? = some (⟨some 4, .assign (.tmp 16), 3, "value.go:54", #[⟨11, .data⟩, ⟨11, .chain⟩, ⟨0, .phase⟩, ⟨1, .phase⟩, ⟨2, .phase⟩, ⟨3, .phase⟩, ⟨4, .phase⟩, ⟨5, .phase⟩, ⟨6, .phase⟩, ⟨7, .phase⟩, ⟨8, .phase⟩, ⟨9, .phase⟩, ⟨10, .phase⟩, ⟨11, .phase⟩], none⟩ : Go.Oper) := rfl
theorem o181_1_ns : Go.Region.noSelect o181_1 = true := by kernel_rfl
set_option maxRecDepth 100000 in
set_option maxHeartbeats 4000000 in
theorem rankCmp_calls (x y : AsD) (w : World) : Calls Tryz.prog 181 #[.agg #[.string x.player, .string x.pos, .int .i64 x.value], .agg #[.string y.player, .string y.pos, .int .i64 y.value]] w (CmpIs (cmpRank x y) w) := by
 obtain ⟨W, hW⟩ : ∃ W, W = (w.alloc (.cells #[.string x.player, .string x.pos, .int .i64 x.value] 78)).alloc (.cells #[.string y.player, .string y.pos, .int .i64 y.value] 78) := ⟨_, rfl⟩
 have hG : Gro w W := by rw [hW]; exact ((Gro.refl w).alloc _).alloc _
 have hx : W.heap[w.heap.size]? = some (.cells #[.string x.player, .string x.pos, .int .i64 x.value] 78 (0, 0)) := by rw [hW]; exact heap_alG (heap_alloc_new w _) _
 have hy : W.heap[w.heap.size + 1]? = some (.cells #[.string y.player, .string y.pos, .int .i64 y.value] 78 (0, 0)) := by
  rw [hW]; have := heap_alloc_new (w.alloc (.cells #[.string x.player, .string x.pos, .int .i64 x.value] 78)) (.cells #[.string y.player, .string y.pos, .int .i64 y.value] 78); simpa using this
 have x0 := cell_at hx 0 rfl
 have x1 := cell_at hx 1 rfl
 have x2 := cell_at hx 2 rfl
 have y0 := cell_at hy 0 rfl
 have y1 := cell_at hy 1 rfl
 have y2 := cell_at hy 2 rfl
 have HR := Lib.hid (show cmpRank x y = firstE [Lib.compareInt y.value x.value, cmpS x.player y.player] by rw [then_first]; rfl)
 have HS := Lib.hid (show ∀ w', Gro w w' → Below W.heap.size W w' → (Gro w w' ∧ Below W.heap.size W w' ∧ w'.cell? ⟨w.heap.size, 0, none⟩ = some (.string x.player) ∧ w'.cell? ⟨w.heap.size, 1, none⟩ = some (.string x.pos) ∧ w'.cell? ⟨w.heap.size, 2, none⟩ = some (.int .i64 x.value) ∧ w'.cell? ⟨w.heap.size + 1, 0, none⟩ = some (.string y.player) ∧ w'.cell? ⟨w.heap.size + 1, 1, none⟩ = some (.string y.pos) ∧ w'.cell? ⟨w.heap.size + 1, 2, none⟩ = some (.int .i64 y.value)) from fun w' hg hb => ⟨hg, hb, below_cell hb x0, below_cell hb x1, below_cell hb x2, below_cell hb y0, below_cell hb y1, below_cell hb y2⟩)
 have hG0 := hG.drew
 have hb0 := (Below.refl W.heap.size W).drew
 clear x0 x1 x2 y0 y1 y2 hx hy
 go_enter Tryz.func181, Tryz.ntmps181
 go_upto_region 1 with fail
 rw [← hW]
 clear hW
 show Code.wp _ (Code.region 1 o181_1 true) _ _ _
 refine region_start 13 (fun w' => Gro w w' ∧ Below W.heap.size W w' ∧ w'.cell? ⟨w.heap.size, 0, none⟩ = some (.string x.player) ∧ w'.cell? ⟨w.heap.size, 1, none⟩ = some (.string x.pos) ∧ w'.cell? ⟨w.heap.size, 2, none⟩ = some (.int .i64 x.value) ∧ w'.cell? ⟨w.heap.size + 1, 0, none⟩ = some (.string y.player) ∧ w'.cell? ⟨w.heap.size + 1, 1, none⟩ = some (.string y.pos) ∧ w'.cell? ⟨w.heap.size + 1, 2, none⟩ = some (.int .i64 y.value)) (by kernel_rfl) rfl ?_ (fun hHeld => ?_)
 ·(exact HS.out _ (by first | exact hG0 | exact hHeld.1 | exact hHeld.1.alloc _) (by first | exact hb0 | exact hHeld.2.1 | exact below_step hHeld.2.1 (below_alloc _ _)))
 refine take_to 0 5 (bQ 13 1) (v := ?_) o181_1_0 rfl o181_1_ns (by kernel_rfl) (by kernel_rfl) (fun _ _ _ h => h) (by rfl) ?y0r (by assumption) ?_
 case y0r => intro w h; (try dsimp only at h); go_simp; try with_reducible rfl
 simp only [sE0, sE1]
 refine take_to 1 6 (bQ 13 3) (v := ?_) o181_1_1 rfl o181_1_ns (by kernel_rfl) (by kernel_rfl) (fun _ _ _ h => h) (by rfl) ?y1r (by assumption) ?_
 case y1r => intro w h; (try dsimp only at h); go_simp; try with_reducible rfl
 simp only [sE0, sE1]
 refine take_to 2 7 (bQ 13 7) (v := ?_) o181_1_2 rfl o181_1_ns (by kernel_rfl) (by kernel_rfl) (fun _ _ _ h => h) (by rfl) ?y2r (by assumption) ?_
 case y2r => intro w h; (try dsimp only at h); go_simp; try with_reducible rfl
 simp only [sE0, sE1]
 refine take_to 3 8 (bQ 13 15) (v := ?_) o181_1_3 rfl o181_1_ns (by kernel_rfl) (by kernel_rfl) (fun _ _ _ h => h) (by rfl) ?y3r (by assumption) ?_
 case y3r => intro w h; (try dsimp only at h); go_simp; try with_reducible rfl
 simp only [sE0, sE1]
 refine take_to 5 10 (bQ 13 47) (v := ?_) o181_1_5 rfl o181_1_ns (by kernel_rfl) (by kernel_rfl) (fun _ _ _ h => h) (by rfl) ?y5r (by assumption) ?_
 case y5r => intro w h; (try dsimp only at h); go_simp; try with_reducible rfl
 simp only [sE0, sE1]
 refine take_to 6 11 (bQ 13 111) (v := ?_) o181_1_6 rfl o181_1_ns (by kernel_rfl) (by kernel_rfl) (fun _ _ _ h => h) (by rfl) ?y6r (by assumption) ?_
 case y6r => intro w h; (try dsimp only at h); go_simp; try with_reducible rfl
 simp only [sE0, sE1]
 refine take_to 7 12 (bQ 13 239) (v := ?_) o181_1_7 rfl o181_1_ns (by kernel_rfl) (by kernel_rfl) (fun _ _ _ h => h) (by rfl) ?y7r (by assumption) ?_
 case y7r => intro w h; (try dsimp only at h); go_simp; try with_reducible rfl
 simp only [sE0, sE1]
 refine take_to 8 13 (bQ 13 495) (v := ?_) o181_1_8 rfl o181_1_ns (by kernel_rfl) (by kernel_rfl) (fun _ _ _ h => h) (by rfl) ?y8r (by assumption) ?_
 case y8r => intro w h; (try dsimp only at h); go_simp; try with_reducible rfl
 simp only [sE0, sE1]
 refine run_to 4 (bQ 13 511) o181_1_4 (by kernel_rfl) (by kernel_rfl) (by rfl) (fun K hK => ?_)
 go_simp
 refine (intCmp_calls _ _ _).mono ?_
 rintro e w' ⟨rfl, rfl⟩
 go_wp2_with fail
 refine hK.out _ _ ?_ (fun hHeld => ?_)
 ·(exact HS.out _ (by first | exact hG0 | exact hHeld.1 | exact hHeld.1.alloc _) (by first | exact hb0 | exact hHeld.2.1 | exact below_step hHeld.2.1 (below_alloc _ _)))
 clear hK K
 try simp only [Act.put, sEt, sE0, sE1]
 refine run_to 9 (bQ 13 1023) o181_1_9 (by kernel_rfl) (by kernel_rfl) (by rfl) (fun K hK => ?_)
 go_simp
 refine (strCmp_calls _ _ _).mono ?_
 rintro e w' ⟨rfl, rfl⟩
 go_wp2_with fail
 refine hK.out _ _ ?_ (fun hHeld => ?_)
 ·(exact HS.out _ (by first | exact hG0 | exact hHeld.1 | exact hHeld.1.alloc _) (by first | exact hb0 | exact hHeld.2.1 | exact below_step hHeld.2.1 (below_alloc _ _)))
 clear hK K
 try simp only [Act.put, sEt, sE0, sE1]
 refine run_to 10 (bQ 13 2047) o181_1_10 (by kernel_rfl) (by kernel_rfl) (by rfl) (fun K hK => ?_)
 go_simp
 refine hK.out _ _ ?_ (fun hHeld => ?_)
 ·(exact HS.out _ (by first | exact hG0 | exact hHeld.1 | exact hHeld.1.alloc _) (by first | exact hb0 | exact hHeld.2.1 | exact below_step hHeld.2.1 (below_alloc _ _)))
 clear hK K
 try simp only [Act.put, sEt, sE0, sE1]
 refine run_to 11 (bQ 13 4095) o181_1_11 (by kernel_rfl) (by kernel_rfl) (by rfl) (fun K hK => ?_)
 go_simp
 refine (orInt_calls _ 0 2 [Lib.compareInt y.value x.value, cmpS x.player y.player] _ (by simp) (by exact nums2 _ _ _ _)).mono ?_
 rintro e w' ⟨rfl, rfl⟩
 go_wp2_with fail
 refine hK.out _ _ ?_ (fun hHeld => ?_)
 ·(exact HS.out _ (by first | exact hG0 | exact hHeld.1 | exact hHeld.1.alloc _) (by first | exact hb0 | exact hHeld.2.1 | exact below_step hHeld.2.1 (below_alloc _ _)))
 clear hK K
 try simp only [Act.put, sEt, sE0, sE1]
 refine take_to 12 4 (bQ 13 8191) (v := ?_) o181_1_12 rfl o181_1_ns (by kernel_rfl) (by kernel_rfl) (fun _ _ _ h => h) (by rfl) ?y12r (by assumption) ?_
 case y12r => intro w h; (try dsimp only at h); go_simp; try with_reducible rfl
 simp only [sE0, sE1]
 refine wpAnyH_done (by kernel_rfl) ?_ _
 go_wp2_with fail
 go_ret
 exact ⟨ret_int HR.out.symm, hHeld.1⟩
set_option maxRecDepth 100000 in
set_option maxHeartbeats 1000000 in
theorem downCmp_calls (x y : AsD) (w : World) : Calls Tryz.prog 156 #[.agg #[.string x.player, .string x.pos, .int .i64 x.value], .agg #[.string y.player, .string y.pos, .int .i64 y.value]] w (CmpIs (cmpDown x y) w) := by
 unfold cmpDown
 go_enter Tryz.func156, Tryz.ntmps156
 go_wp2_with fail
 refine (intCmp_calls _ _ _).mono ?_
 rintro e w' ⟨rfl, rfl⟩
 go_wp2_with fail
 go_ret
 exact ⟨rfl, ((Gro.refl w).alloc _).alloc _⟩
set_option maxRecDepth 100000 in
set_option maxHeartbeats 1000000 in
theorem whoCmp_calls (x y : AsD) (w : World) : Calls Tryz.prog 152 #[.agg #[.string x.player, .string x.pos, .int .i64 x.value], .agg #[.string y.player, .string y.pos, .int .i64 y.value]] w (CmpIs (cmpWho x y) w) := by
 unfold cmpWho
 go_enter Tryz.func152, Tryz.ntmps152
 go_wp2_with fail
 refine (strCmp_calls _ _ _).mono ?_
 rintro e w' ⟨rfl, rfl⟩
 go_wp2_with fail
 go_ret
 exact ⟨rfl, ((Gro.refl w).alloc _).alloc _⟩
set_option maxRecDepth 100000 in
set_option maxHeartbeats 1000000 in
theorem isIn1_calls (x : AsD) (k : ByteArray) (w : World) : Calls Tryz.prog 148 #[.agg #[.string x.player, .string x.pos, .int .i64 x.value], .string k] w (IntBelow (cmpS x.player k) w) := by
 go_enter Tryz.func148, Tryz.ntmps148
 go_wp2_with fail
 refine (strCmp_calls _ _ _).mono ?_
 rintro e w' ⟨rfl, rfl⟩
 go_wp2_with fail
 go_ret
 exact ⟨rfl, below_alloc w _⟩
/-- Is a player one of some assets? -/
def hasA (xs : List AsD) (k : ByteArray) : Bool := xs.any fun x => beqS x.player k
theorem kAt_rise {xs : List AsD} (h : RiseA xs) (k : ByteArray) : RiseC (kAt (fun x => cmpS x.player k) xs) xs.length := by
 intro a b hab hb hle
 have ha : a < xs.length := by omega
 rw [kAt_some (List.getElem?_eq_getElem hb)] at hle
 rw [kAt_some (List.getElem?_eq_getElem ha)]
 exact cmpS_ok.lt_le (List.pairwise_iff_getElem.1 h a b ha hb hab) hle
theorem has_found {xs : List AsD} (h : RiseA xs) (k : ByteArray) : bsCB (kAt (fun x => cmpS x.player k) xs) xs.length = hasA xs k := by
 rw [Bool.eq_iff_iff, bsCB_iff (kAt_rise h k)]
 unfold hasA
 rw [List.any_eq_true]
 constructor
 ·rintro ⟨i, hi, h0⟩
  rw [kAt_some (List.getElem?_eq_getElem hi)] at h0
  exact ⟨_, List.getElem_mem hi, by rw [cmpS_sameC h0]; exact beqS_self _⟩
 ·rintro ⟨x, hx, hb⟩
  obtain ⟨i, hi⟩ := List.getElem?_of_mem hx; refine ⟨i, (List.getElem?_eq_some_iff.1 hi).1, ?_⟩; rw [kAt_some hi]; show cmpS x.player k = 0
  rw [beqS_iff.1 hb]; exact cmpS_ok.self _
/-- Assets in memory of the call's own: they may be written. -/
def FreshAs (lo : Nat) (xs : List AsD) (w : World) (v : Value) : Prop := (v = .slice none 0 0 ∧ xs = []) ∨ ∃ g off c, v = .slice (some ⟨g, off, none⟩) xs.length c ∧ RowsAt w 78 g off 3 (xs.map asRow) ∧ xs.length ≤ c ∧ lo ≤ g
theorem FreshAs.ass {lo : Nat} {xs : List AsD} {w : World} {v : Value} (h : FreshAs lo xs w v) (hn : xs.length ≤ 1000000) : Ass w lo v xs := by
 rcases h with ⟨rfl, rfl⟩ | ⟨g, off, c, rfl, hr, hc, hl⟩
 ·exact ⟨by simp, by simp, .inl ⟨rfl, rfl⟩⟩
 ·have := hr.rows (lo := lo) (cap := c) (by simpa using hn) hl (by simpa using hc)
  simpa [Ass] using this
theorem FreshAs.below {lo : Nat} {xs : List AsD} {w w' : World} {v : Value} (h : FreshAs lo xs w v) (hb : Below w.heap.size w w') : FreshAs lo xs w' v := by
 rcases h with h | ⟨g, off, c, e, hr, hc, hl⟩
 ·exact .inl h
 ·exact .inr ⟨g, off, c, e, hr.below hb, hc, hl⟩
theorem fresh_own {lo : Nat} {xs : List AsD} {w : World} {v : Value} (h : OwnAs w lo v xs) : FreshAs lo xs w v := by
 rcases h.2 with ⟨e, h0⟩ | ⟨g, cap, cur, e, hb, hg, hle, _⟩
 ·exact .inl ⟨e, List.eq_nil_of_length_eq_zero h0⟩
 ·subst e
  obtain ⟨hat, _⟩ := RowsAt.of_owns (sz := 3) (rows := xs.map asRow) (by simpa [OwnAs] using h) (as_each xs)
  exact .inr ⟨g, 0, cap, rfl, hat, hle, hb⟩
/-- What hands back assets of its own. -/
def MadeAs (xs : List AsD) (w : World) (e : Ending) (w' : World) : Prop := ∃ v, FreshAs w.heap.size xs w' v ∧ e = .returned v ∧ Below w.heap.size w w'
theorem below_gbG {w a b : World} {g : Nat} (h : Below w.heap.size w a) (k : a.grownBy b (some g)) (hg : w.heap.size ≤ g) : Below w.heap.size w b :=
 h.grown k h.size fun r hr => by cases hr; exact hg
set_option maxRecDepth 100000 in
set_option maxHeartbeats 2000000 in
theorem ranked_calls (lo : Nat) (v : Value) (xs : List AsD) (w : World) (hv : Ass w lo v xs) (hn : xs.length ≤ 12) :
  Calls Tryz.prog 140 #[v] w (MadeAs (rank xs) w) := by
 have C := Lib.hid (cloneAs_calls lo v xs w hv)
 obtain ⟨a, c, rfl⟩ := as_shape hv
 clear hv
 go_enter Tryz.func140, Tryz.ntmps140
 go_wp2_with fail
 refine C.out.mono ?_
 rintro e w1 ⟨v1, hown, rfl, hb1⟩
 rcases fresh_own hown with ⟨rfl, rfl⟩ | ⟨g, off, c1, rfl, hr, hc, hl⟩
 ·clear C hown
  go_wp2_with fail
  refine (sortAs0_calls _ _ _).mono ?_; rintro e w2 ⟨rfl, rfl⟩; go_wp2_with fail
  go_ret
  exact ⟨_, .inl ⟨rfl, List.eq_nil_of_length_eq_zero (insL_len cmpRank [])⟩, rfl, hb1⟩
 ·have D := Lib.hid (sortAs_calls cmpRank 181 #[] g off c1 xs w1 hr hn (enters_of Tryz.func181 (by kernel_rfl) rfl) fun W x y _ => rankCmp_calls x y W)
  have HL := Lib.hid (insL_len cmpRank xs); clear C hown hr; go_wp2_with fail
  refine D.out.mono ?_; rintro e w2 ⟨rfl, hr2, hg2⟩; clear D; go_wp2_with fail
  go_ret
  refine ⟨_, .inr ⟨g, off, c1, by unfold rank; rw [HL.out]; rfl, hr2, by unfold rank; rw [HL.out]; exact hc, hl⟩, rfl, below_gbG hb1 hg2 hl⟩
set_option maxRecDepth 100000 in
set_option maxHeartbeats 1000000 in
theorem of1_calls (X : Nat) (x : AsD) (k : ByteArray) (w : World) (hX : w.cell? ⟨X, 0, none⟩ = some (.string k)) :
  Calls Tryz.prog 154 #[.agg #[.string x.player, .string x.pos, .int .i64 x.value], .pointer (some ⟨X, 0, none⟩)] w (BoolIs (!beqS x.pos k) w) := by
 have hX1 := below_cell (below_alloc w (.cells #[.string x.player, .string x.pos, .int .i64 x.value] 78)) hX
 clear hX
 cases hk : beqS x.pos k
 ·have e1 : (x.pos.toList == k.toList) = false := hk
  have e2 : (x.pos.toList != k.toList) = true := by rw [bne, e1]; rfl
  clear hk; go_enter Tryz.func154, Tryz.ntmps154; go_wp2_with fail
  go_ret
  exact ⟨rfl, below_alloc w _⟩
 ·have e1 : (x.pos.toList == k.toList) = true := hk
  have e2 : (x.pos.toList != k.toList) = false := by rw [bne, e1]; rfl
  clear hk; go_enter Tryz.func154, Tryz.ntmps154; go_wp2_with fail
  go_ret
  exact ⟨rfl, below_alloc w _⟩
theorem ofR_ins {xs : List AsD} (h : RiseA xs) (k : ByteArray) : insL cmpDown (xs.filter fun x => beqS x.pos k) = ofR xs k := by
 unfold ofR
 exact down_rank (h.sublist List.filter_sublist)
set_option maxRecDepth 100000 in
set_option maxHeartbeats 2000000 in
theorem ofA_calls (lo : Nat) (v : Value) (xs : List AsD) (k : ByteArray) (w : World) (hv : Ass w lo v xs) (hr : RiseA xs) (hn : xs.length ≤ 12) :
  Calls Tryz.prog 116 #[v, .string k] w (MadeAs (ofR xs k) w) := by
 obtain ⟨W, hW⟩ : ∃ W, W = w.alloc (.cells #[.string k] 9) := ⟨_, rfl⟩
 have hwW : Below w.heap.size w W := by rw [hW]; exact below_alloc w _
 have x0 : W.cell? ⟨w.heap.size, 0, none⟩ = some (.string k) := by rw [hW, World.cell?_alloc_at _ _ _ _ rfl]; rfl
 have hWs : W.heap.size = w.heap.size + 1 := by rw [hW]; simp
 have C := Lib.hid (cloneAs_calls lo v xs W (hv.below hwW))
 have HO := Lib.hid (ofR_ins hr k)
 have HF := Lib.hid (show (xs.filter fun x => !(!beqS x.pos k)) = xs.filter fun x => beqS x.pos k by simp)
 have HFl := Lib.hid (show (xs.filter fun x => beqS x.pos k).length ≤ 12 from Nat.le_trans (List.length_filter_le _ _) hn)
 obtain ⟨a, c, rfl⟩ := as_shape hv
 generalize ofR xs k = R at HO ⊢
 have HX := Lib.hid x0
 have HWs := Lib.hid hWs
 have HwW := Lib.hid hwW
 clear hv hr x0 hWs hwW
 go_enter Tryz.func116, Tryz.ntmps116
 go_upto_region 1 with fail
 rw [← hW]
 clear hW
 go_wp2_with fail
 refine C.out.mono ?_
 rintro e w1 ⟨v1, hown, rfl, hb1⟩
 have hb01 := below_step HwW.out hb1
 rcases fresh_own hown with ⟨rfl, rfl⟩ | ⟨g, off, c1, rfl, hr1, hc, hl⟩
 ·have HR : R = [] := by rw [← HO.out]; exact List.eq_nil_of_length_eq_zero (insL_len cmpDown [])
  subst HR; have D := Lib.hid (deleteAs0_calls 154 #[.pointer (some ⟨w.heap.size, 0, none⟩)] (fun x => !beqS x.pos k) w1 (enters_of Tryz.func154 (by kernel_rfl) rfl) fun W2 x hb => of1_calls _ x k W2 (below_cell hb (below_cell hb1 HX.out)))
  clear C hown hb1 HO HF HFl HX HWs HwW; go_wp2_with fail
  refine D.out.mono ?_; rintro e w2 ⟨rfl, hb2⟩; have hb02 := below_step hb01 hb2; clear D hb2 hb01; go_wp2_with fail
  refine (sortStableAs0_calls _ _ _).mono ?_; rintro e w3 ⟨rfl, rfl⟩; go_wp2_with fail
  go_ret
  exact ⟨_, .inl ⟨rfl, rfl⟩, rfl, hb02⟩
 ·have hlw : w.heap.size ≤ g := by have := HWs.out; omega
  have D := Lib.hid (deleteAs_calls 154 #[.pointer (some ⟨w.heap.size, 0, none⟩)] (fun x => !beqS x.pos k) 0 g off c1 xs w1 hr1 (by omega) hc (Nat.zero_le _) (enters_of Tryz.func154 (by kernel_rfl) rfl) fun W2 x hg => of1_calls _ x k W2 (gb_cell hg (below_cell hb1 HX.out) (by have := HWs.out; omega)))
  unfold LeftAs at D
  rw [HF.out] at D
  generalize (xs.filter fun x => beqS x.pos k) = ys at D HO HFl
  clear C hown hr1 HF; go_wp2_with fail
  refine D.out.mono ?_; rintro e w2 ⟨c2, rfl, hr2, hc2, hg2⟩; have hb02 := below_gbG hb01 hg2 hlw; have E := Lib.hid (sortStableAs_calls cmpDown 156 #[] g off c2 ys w2 hr2 (by have := HFl.out; omega) (enters_of Tryz.func156 (by kernel_rfl) rfl) fun W x y _ => downCmp_calls x y W)
  have HL := Lib.hid (insL_len cmpDown ys); unfold SortedAs at E
  rw [HO.out] at E HL
  clear D hr2 hg2 HO hb1 hb01; go_wp2_with fail
  refine E.out.mono ?_; rintro e w3 ⟨rfl, hr3, hg3⟩; have hb03 := below_gbG hb02 hg3 hlw; clear E hb02; go_wp2_with fail
  go_ret
  exact ⟨_, .inr ⟨g, off, c2, by rw [HL.out]; rfl, hr3, by rw [HL.out]; exact hc2, hlw⟩, rfl, hb03⟩
end Go.Proofs.YtddnnjblpgfjeaaGreatDoor
