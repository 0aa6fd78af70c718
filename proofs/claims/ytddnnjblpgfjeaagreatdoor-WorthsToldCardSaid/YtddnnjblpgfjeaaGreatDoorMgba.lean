/- Prices: the program's way. -/
import Derived.Test.YtddnnjblpgfjeaaGreatDoorMgap
import Derived.Test.YtddnnjblpgfjeaaGreatDoorMgau
import Derived.Test.YtddnnjblpgfjeaaGreatDoorMgay
import Derived.Test.YtddnnjblpgfjeaaGreatDoorMgaz
import Derived.Test.YtddnnjblpgfjeaaGreatDoorMgar
import Derived.Test.YtddnnjblpgfjeaaGreatDoorMgav
import Derived.Test.YtddnnjblpgfjeaaGreatDoorMgao
import Derived.Test.YtddnnjblpgfjeaaGreatDoorMgaq
import Derived.Test.YtddnnjblpgfjeaaGreatDoorMgan
/- The levels of positions. -/
namespace Go.Proofs.YtddnnjblpgfjeaaGreatDoor
open Go.RowKit

/-- Values by position. -/
def vOf (l : List AsD) (k : ByteArray) : List Int := (l.filter fun x => beqS x.pos k).map AsD.value
theorem vOf_snoc {l : List AsD} {j : Nat} {x : AsD} (h : l[j]? = some x) : vOf (l.take (j + 1)) = fun k => if beqS x.pos k then vOf (l.take j) x.pos ++ [x.value] else vOf (l.take j) k := by
 funext k
 rw [take_snocG h]
 unfold vOf
 rw [List.filter_append, List.map_append]
 cases hq : beqS x.pos k
 ·simp [hq]
 ·have e : k = x.pos := (beqS_iff.1 hq).symm
  subst e; rw [show ([x].filter fun z => beqS z.pos x.pos) = [x] by simp [beqS_self]]; rfl
theorem vOf_len (l : List AsD) (k : ByteArray) : (vOf l k).length ≤ l.length := by unfold vOf; rw [List.length_map]; exact List.length_filter_le _ _
/-- The level of a place. -/
def lvAt (zs : List Int) (m t : Int) : Int := zs[(min (m * t) ((zs.length : Int) - 1)).toNat]?.getD 0
def lvK (Z : ByteArray → List Int) (t : Int) (ps : List PlD) : Nat → ByteArray → Option Int
 | 0, _ => none
 | i + 1, k => if beqS (ps[i]?.getD default).pos k && !(Z (ps[i]?.getD default).pos).isEmpty then some (lvAt (Z (ps[i]?.getD default).pos) (ps[i]?.getD default).many t) else lvK Z t ps i k
theorem int_cell {w : World} {base : Nat} {v : Value} {zs : List Int} (h : w.ownsInts base 3 .i64 v zs) : ∃ a c, v = .slice a zs.length c ∧ ∀ i z, zs[i]? = some z → ∃ g, a = some ⟨g, 0, none⟩ ∧ w.cell? ⟨g, i, none⟩ = some (.int .i64 z) := by
 obtain ⟨⟨hl, h⟩, _⟩ := h
 rcases h with ⟨rfl, h0⟩ | ⟨g, cap, cur, rfl, _, hg, _, _, hc, ht⟩
 ·exact ⟨none, 0, by rw [h0], fun i z hz => by rw [List.eq_nil_of_length_eq_zero h0] at hz; simp at hz⟩
 ·refine ⟨_, _, rfl, fun i z hz => ⟨g, rfl, ?_⟩⟩
  have hi := (List.getElem?_eq_some_iff.1 hz).1; rw [cell_of_row w g i cur 3 (0, 0) hg]; have h1 : (cur.toList.take (zs.length * 1))[i]? = some (.int .i64 z) := by rw [ht]; simp [hz]
  rw [List.getElem?_take_of_lt (by omega)] at h1
  simpa using h1
def MapIs (n : Nat) (f : ByteArray → Option Int) (w : World) (e : Ending) (w' : World) : Prop := ∃ b, e = .returned (.map (some b)) ∧ IMap w' b n f ∧ w.heap.size ≤ b ∧ Below w.heap.size w w'
def o92_5 : Array Go.Oper := #[
 ⟨some 22, .move (.tmp 7), 172, "worth.go:68", #[], none⟩,
 ⟨some 23, .fieldAddr 78 (.tmp 9) 1, 0, "worth.go:68", #[], none⟩,
 ⟨some 24, .load 9 (.tmp 23), 9, "worth.go:68", #[⟨1, .data⟩], none⟩,
 ⟨some 25, .move (.tmp 7), 172, "worth.go:68", #[], none⟩,
 ⟨some 26, .fieldAddr 78 (.tmp 9) 1, 0, "worth.go:68", #[], none⟩,
 ⟨some 27, .load 9 (.tmp 26), 9, "worth.go:68", #[⟨4, .data⟩], none⟩,
 ⟨some 28, .lookup 172 (.tmp 25) (.tmp 27) false, 22, "worth.go:68", #[⟨3, .data⟩, ⟨5, .data⟩], none⟩,
 ⟨some 29, .fieldAddr 78 (.tmp 9) 2, 0, "worth.go:68", #[], none⟩,
 ⟨some 30, .load 3 (.tmp 29), 3, "worth.go:68", #[⟨7, .data⟩], none⟩,
 ⟨some 31, .buildSlice 22 1 #[(0, .tmp 30)], 22, "worth.go:68", #[⟨8, .data⟩], none⟩,
 ⟨some 32, .call { callee := .builtin .append, args := #[.tmp 28, .tmp 31], argTypes := #[22, 22] }, 22, "worth.go:68", #[⟨6, .data⟩, ⟨9, .data⟩], none⟩,
 ⟨none, .mapUpdate 172 (.tmp 22) (.tmp 24) (.tmp 32), 0, "worth.go:68", #[⟨0, .data⟩, ⟨2, .data⟩, ⟨10, .data⟩, ⟨10, .chain⟩, ⟨0, .phase⟩, ⟨1, .phase⟩, ⟨2, .phase⟩, ⟨3, .phase⟩, ⟨4, .phase⟩, ⟨5, .phase⟩, ⟨6, .phase⟩, ⟨7, .phase⟩, ⟨8, .phase⟩, ⟨9, .phase⟩, ⟨10, .phase⟩], none⟩]
theorem o92_5_0 : o92_5[0]? = some (⟨some 22, .move (.tmp 7), 172, "worth.go:68", #[], none⟩ : Go.Oper) := rfl
theorem o92_5_1 : o92_5[1]? = some (⟨some 23, .fieldAddr 78 (.tmp 9) 1, 0, "worth.go:68", #[], none⟩ : Go.Oper) := rfl
theorem o92_5_2 : o92_5[2]? = some (⟨some 24, .load 9 (.tmp 23), 9, "worth.go:68", #[⟨1, .data⟩], none⟩ : Go.Oper) := rfl
theorem o92_5_3 : o92_5[3]? = some (⟨some 25, .move (.tmp 7), 172, "worth.go:68", #[], none⟩ : Go.Oper) := rfl
theorem o92_5_4 : o92_5[4]? = some (⟨some 26, .fieldAddr 78 (.tmp 9) 1, 0, "worth.go:68", #[], none⟩ : Go.Oper) := rfl
theorem o92_5_5 : o92_5[5]? = some (⟨some 27, .load 9 (.tmp 26), 9, "worth.go:68", #[⟨4, .data⟩], none⟩ : Go.Oper) := rfl
theorem o92_5_6 : o92_5[6]? = some (⟨some 28, .lookup 172 (.tmp 25) (.tmp 27) false, 22, "worth.go:68", #[⟨3, .data⟩, ⟨5, .data⟩], none⟩ : Go.Oper) := rfl
theorem o92_5_7 : o92_5[7]? = some (⟨some 29, .fieldAddr 78 (.tmp 9) 2, 0, "worth.go:68", #[], none⟩ : Go.Oper) := rfl
theorem o92_5_8 : o92_5[8]? = some (⟨some 30, .load 3 (.tmp 29), 3, "worth.go:68", #[⟨7, .data⟩], none⟩ : Go.Oper) := rfl
theorem o92_5_9 : o92_5[9]? = some (⟨some 31, .buildSlice 22 1 #[(0, .tmp 30)], 22, "worth.go:68", #[⟨8, .data⟩], none⟩ : Go.Oper) := rfl
theorem o92_5_10 : o92_5[10]? = some (⟨some 32, .call { callee := .builtin .append, args := #[.tmp 28, .tmp 31], argTypes := #[22, 22] }, 22, "worth.go:68", #[⟨6, .data⟩, ⟨9, .data⟩], none⟩ : Go.Oper) := rfl
theorem o92_5_11 : o92_5[11]? = some (⟨none, .mapUpdate 172 (.tmp 22) (.tmp 24) (.tmp 32), 0, "worth.go:68", #[⟨0, .data⟩, ⟨2, .data⟩, ⟨10, .data⟩, ⟨10, .chain⟩, ⟨0, .phase⟩, ⟨1, .phase⟩, ⟨2, .phase⟩, ⟨3, .phase⟩, ⟨4, .phase⟩, ⟨5, .phase⟩, ⟨6, .phase⟩, ⟨7, .phase⟩, ⟨8, .phase⟩, ⟨9, .phase⟩, ⟨10, .phase⟩], none⟩ : Go.Oper) := rfl
def o92_13 : Array Go.Oper := #[
 ⟨some 48, .move (.tmp 10), 129, "worth.go:73", #[], none⟩,
 ⟨some 49, .fieldAddr 125 (.tmp 12) 0, 0, "worth.go:73", #[], none⟩,
 ⟨some 50, .load 9 (.tmp 49), 9, "worth.go:73", #[⟨1, .data⟩], none⟩,
 ⟨some 51, .move (.tmp 13), 22, "worth.go:73", #[], none⟩,
 ⟨some 52, .fieldAddr 125 (.tmp 12) 1, 0, "worth.go:73", #[], none⟩,
 ⟨some 53, .load 3 (.tmp 52), 3, "worth.go:73", #[⟨4, .data⟩], none⟩,
 ⟨some 54, .move (.tmp 2), 3, "worth.go:73", #[], none⟩,
 ⟨some 55, .binOp .mul 3 (.tmp 53) (.tmp 54) 3, 3, "worth.go:73", #[⟨5, .data⟩, ⟨6, .data⟩], none⟩,
 ⟨some 56, .move (.tmp 13), 22, "worth.go:73", #[], none⟩,
 ⟨some 57, .call { callee := .builtin .len, args := #[.tmp 56], argTypes := #[22] }, 3, "worth.go:73", #[⟨8, .data⟩], none⟩,
 ⟨some 58, .binOp .sub 3 (.tmp 57) (.const (.int .i64 1)) 3, 3, "worth.go:73", #[⟨9, .data⟩], none⟩,
 ⟨some 59, .call { callee := .builtin .min, args := #[.tmp 55, .tmp 58], argTypes := #[3, 3] }, 3, "worth.go:73", #[⟨7, .data⟩, ⟨10, .data⟩], none⟩,
 ⟨some 60, .indexAddr 22 (.tmp 51) (.tmp 59), 0, "worth.go:73", #[⟨3, .data⟩, ⟨11, .data⟩], none⟩,
 ⟨some 61, .load 3 (.tmp 60), 3, "worth.go:73", #[⟨12, .data⟩], none⟩,
 ⟨none, .mapUpdate 129 (.tmp 48) (.tmp 50) (.tmp 61), 0, "worth.go:73", #[⟨0, .data⟩, ⟨2, .data⟩, ⟨13, .data⟩, ⟨0, .phase⟩, ⟨1, .phase⟩, ⟨2, .phase⟩, ⟨3, .phase⟩, ⟨4, .phase⟩, ⟨5, .phase⟩, ⟨6, .phase⟩, ⟨7, .phase⟩, ⟨8, .phase⟩, ⟨9, .phase⟩, ⟨10, .phase⟩, ⟨11, .phase⟩, ⟨12, .phase⟩, ⟨13, .phase⟩], none⟩]
theorem o92_13_0 : o92_13[0]? = some (⟨some 48, .move (.tmp 10), 129, "worth.go:73", #[], none⟩ : Go.Oper) := rfl
theorem o92_13_1 : o92_13[1]? = some (⟨some 49, .fieldAddr 125 (.tmp 12) 0, 0, "worth.go:73", #[], none⟩ : Go.Oper) := rfl
theorem o92_13_2 : o92_13[2]? = some (⟨some 50, .load 9 (.tmp 49), 9, "worth.go:73", #[⟨1, .data⟩], none⟩ : Go.Oper) := rfl
theorem o92_13_3 : o92_13[3]? = some (⟨some 51, .move (.tmp 13), 22, "worth.go:73", #[], none⟩ : Go.Oper) := rfl
theorem o92_13_4 : o92_13[4]? = some (⟨some 52, .fieldAddr 125 (.tmp 12) 1, 0, "worth.go:73", #[], none⟩ : Go.Oper) := rfl
theorem o92_13_5 : o92_13[5]? = some (⟨some 53, .load 3 (.tmp 52), 3, "worth.go:73", #[⟨4, .data⟩], none⟩ : Go.Oper) := rfl
theorem o92_13_6 : o92_13[6]? = some (⟨some 54, .move (.tmp 2), 3, "worth.go:73", #[], none⟩ : Go.Oper) := rfl
theorem o92_13_7 : o92_13[7]? = some (⟨some 55, .binOp .mul 3 (.tmp 53) (.tmp 54) 3, 3, "worth.go:73", #[⟨5, .data⟩, ⟨6, .data⟩], none⟩ : Go.Oper) := rfl
theorem o92_13_8 : o92_13[8]? = some (⟨some 56, .move (.tmp 13), 22, "worth.go:73", #[], none⟩ : Go.Oper) := rfl
theorem o92_13_9 : o92_13[9]? = some (⟨some 57, .call { callee := .builtin .len, args := #[.tmp 56], argTypes := #[22] }, 3, "worth.go:73", #[⟨8, .data⟩], none⟩ : Go.Oper) := rfl
theorem o92_13_10 : o92_13[10]? = some (⟨some 58, .binOp .sub 3 (.tmp 57) (.const (.int .i64 1)) 3, 3, "worth.go:73", #[⟨9, .data⟩], none⟩ : Go.Oper) := rfl
theorem o92_13_11 : o92_13[11]? = some (⟨some 59, .call { callee := .builtin .min, args := #[.tmp 55, .tmp 58], argTypes := #[3, 3] }, 3, "worth.go:73", #[⟨7, .data⟩, ⟨10, .data⟩], none⟩ : Go.Oper) := rfl
theorem o92_13_12 : o92_13[12]? = some (⟨some 60, .indexAddr 22 (.tmp 51) (.tmp 59), 0, "worth.go:73", #[⟨3, .data⟩, ⟨11, .data⟩], none⟩ : Go.Oper) := rfl
theorem o92_13_13 : o92_13[13]? = some (⟨some 61, .load 3 (.tmp 60), 3, "worth.go:73", #[⟨12, .data⟩], none⟩ : Go.Oper) := rfl
theorem o92_13_14 : o92_13[14]? = some (⟨none, .mapUpdate 129 (.tmp 48) (.tmp 50) (.tmp 61), 0, "worth.go:73", #[⟨0, .data⟩, ⟨2, .data⟩, ⟨13, .data⟩, ⟨0, .phase⟩, ⟨1, .phase⟩, ⟨2, .phase⟩, ⟨3, .phase⟩, ⟨4, .phase⟩, ⟨5, .phase⟩, ⟨6, .phase⟩, ⟨7, .phase⟩, ⟨8, .phase⟩, ⟨9, .phase⟩, ⟨10, .phase⟩, ⟨11, .phase⟩, ⟨12, .phase⟩, ⟨13, .phase⟩], none⟩ : Go.Oper) := rfl
theorem o92_13_ns : Go.Region.noSelect o92_13 = true := by kernel_rfl
set_option maxRecDepth 100000 in
set_option maxHeartbeats 8000000 in
theorem levelsOf_calls (lo lo' : Nat) (v u : Value) (xs : List AsD) (ps : List PlD) (t : Int) (w : World) (hv : Ass w lo v xs) (hP : Pls w lo' u ps) (hn : xs.length ≤ 12) (hs : ∀ x ∈ xs, SmallA x) (hp : ∀ y ∈ ps, SmallP y) (hp2 : ∀ y ∈ ps, 0 ≤ y.many ∧ y.many ≤ 12) (hm : ps.length ≤ 10) (ht1 : 1 ≤ t) (ht2 : t ≤ 20) :
  Calls Tryz.prog 92 #[v, u, .int .i64 t] w (MapIs 10 (lvK (vOf (rank xs)) t ps ps.length) w) := by
 have hmm := @run_makeMap Tryz.prog
 obtain ⟨i0, hi, hz0, hz1, hz2⟩ := info_parts info_intG
 obtain ⟨W1, hW1⟩ : ∃ W1, W1 = w.alloc (.map #[] 0) := ⟨_, rfl⟩
 have hb1 : Below w.heap.size w W1 := by rw [hW1]; exact below_alloc w _
 have hz1' : W1.heap.size = w.heap.size + 1 := by rw [hW1]; simp
 have hG1 : GMap W1 (w.heap.size + 1) w.heap.size 0 (fun _ => []) := by rw [hW1]; exact GMap.made w
 have CR := Lib.hid (ranked_calls lo v xs W1 (hv.below hb1) hn)
 have Hs := Lib.hid (fun x (h : x ∈ rank xs) => hs x ((rank_perm xs).mem_iff.1 h))
 have hRl : (rank xs).length ≤ 12 := by rw [(rank_perm xs).length_eq]; exact hn
 generalize rank xs = R at CR Hs hRl ⊢
 have Hp := Lib.hid hp
 have Hp2 := Lib.hid hp2
 have HPl := Lib.hid hP
 obtain ⟨pa, pc, rfl⟩ := pl_shape hP
 obtain ⟨a, c, rfl⟩ := as_shape hv
 obtain ⟨np, hnp⟩ : ∃ np, ps.length = np := ⟨_, rfl⟩
 have Hnp := Lib.hid hnp
 obtain ⟨n, hnn⟩ : ∃ n, R.length = n := ⟨_, rfl⟩
 have Hn := Lib.hid hnn
 have Hall := Lib.hid (show R.take n = R by rw [← hnn, List.take_length])
 rw [hnp] at hm HPl ⊢
 rw [hnn] at hRl
 generalize xs.length = nx at *
 clear hv hP hs hp hp2 hnp hnn hn
 go_enter Tryz.func92, Tryz.ntmps92
 go_upto_region 2 with fail
 rw [← hW1]
 clear hW1
 go_wp2_with fail
 refine CR.out.mono ?_
 rintro e w2 ⟨v2, hfr, rfl, hb2⟩
 have hR := hfr.ass (by rw [Hn.out]; omega)
 rw [hz1'] at hR
 have hb02 := below_step hb1 hb2
 have HR0 := Lib.hid hR
 obtain ⟨va, vc, rfl⟩ := as_shape hR
 have HG0 : Hid (GMap w2 (w.heap.size + 1) w.heap.size 0 (vOf (R.take 0))) := Lib.hid (by
  rw [show vOf (R.take 0) = fun _ => [] from by funext k; simp [vOf]]
  exact hG1.below hb2)
 rw [Hn.out] at HR0 ⊢
 clear CR hfr hR hb1 hb2 hG1 hz1'
 go_wp2_with fail
 go_loopw [18] (fun i wr => ∃ k : Nat, k ≤ n ∧ i = .int .i64 k ∧ Hid (GMap wr (w.heap.size + 1) w.heap.size k (vOf (R.take k))) ∧ Hid (Ass wr (w.heap.size + 1) (.slice va n vc) R) ∧ Below w.heap.size w wr) (fun i _ => n - (intOf i).toNat)
 case atStart => exact ⟨0, Nat.zero_le _, rfl, HG0, HR0, hb02⟩
 case round =>
  clear HG0 HR0 hb02; obtain ⟨k, hk, rfl, HM, HR, hb⟩ := hrel; by_cases hlt : k < n
  ·obtain ⟨x, hx⟩ : ∃ x, R[k]? = some x := ⟨_, List.getElem?_eq_getElem (by rw [Hn.out]; exact hlt)⟩
   have hsx := Hs.out x (List.mem_of_getElem? hx); have hkx : x.pos.size ≤ 1000000 := Nat.le_trans hsx.2.1 (by decide)
   have hwf : (Lit.int .i64 x.value).wf = true := WalkArith.wf_i64 (by have := hsx.2.2; omega)
   have Hst := Lib.hid (vOf_snoc hx); rcases as_at HR.out with ⟨_, h⟩ | ⟨g, off, cap, e, _, hgl, _, hcell⟩
   ·rw [h] at hx; simp at hx
   simp only [Value.slice.injEq] at e
   obtain ⟨rfl, -, rfl⟩ := e; obtain ⟨p0, p1, p2⟩ := hcell k x hx; clear hx hcell hsx; go_upto_region 5 with fail
   obtain ⟨wA, hwA⟩ : ∃ wA, wA = wr.alloc (.cells #[.string x.player, .string x.pos, .int .i64 x.value] 78) := ⟨_, rfl⟩
   obtain ⟨X9, hX9⟩ : ∃ X9, X9 = wr.heap.size := ⟨_, rfl⟩
   have hbr : Below wr.heap.size wr wA := by rw [hwA]; exact below_alloc wr _
   have hx9 : wA.heap[X9]? = some (.cells #[.string x.player, .string x.pos, .int .i64 x.value] 78 (0, 0)) := by rw [hwA, hX9]; exact heap_alloc_new wr _
   rw [← hwA, ← hX9]; have hbd := (Below.refl wA.heap.size wA).drew; have hbA := below_step (below_step hb hbr) hbd; have hM := (HM.out.below hbr).below hbd; have HRc := Lib.hid ((HR.out.below hbr).below hbd); replace hx9 := cells_later hx9 hbd; clear hwA hX9 hbr hbd hb HM HR p0 p1 p2; show Code.wp _ (Code.region 5 o92_5 true) _ _ _
   refine regionC_start 12 (fun w' => w'.cell? ⟨X9, 1, none⟩ = some (.string x.pos) ∧ w'.cell? ⟨X9, 2, none⟩ = some (.int .i64 x.value)) (fun j => [2, 5, 6, 8, 9, 10].contains j) (by kernel_rfl) rfl ?_
   generalize wA.drew = wc at hM HRc hbA hx9 ⊢
   have hS : wc.cell? ⟨X9, 1, none⟩ = some (.string x.pos) ∧ wc.cell? ⟨X9, 2, none⟩ = some (.int .i64 x.value) := ⟨cell_at hx9 1 rfl, cell_at hx9 2 rfl⟩
   refine takeC 0 22 (v := ?_) o92_5_0 rfl (by kernel_rfl) (by kernel_rfl) (by kernel_rfl) (by rfl) (fun _ _ _ h => h) (by rfl) ?y0_1 ?_
   case y0_1 => intro w; go_simp; try with_reducible rfl
   simp only [sE0, sE1]; refine takeC 1 23 (v := ?_) o92_5_1 rfl (by kernel_rfl) (by kernel_rfl) (by kernel_rfl) (by rfl) (fun _ _ _ h => h) (by rfl) ?y1_2 ?_
   case y1_2 => intro w; go_simp; try with_reducible rfl
   simp only [sE0, sE1]; refine takeC 3 25 (v := ?_) o92_5_3 rfl (by kernel_rfl) (by kernel_rfl) (by kernel_rfl) (by rfl) (fun _ _ _ h => h) (by rfl) ?y3_3 ?_
   case y3_3 => intro w; go_simp; try with_reducible rfl
   simp only [sE0, sE1]; refine takeC 4 26 (v := ?_) o92_5_4 rfl (by kernel_rfl) (by kernel_rfl) (by kernel_rfl) (by rfl) (fun _ _ _ h => h) (by rfl) ?y4_4 ?_
   case y4_4 => intro w; go_simp; try with_reducible rfl
   simp only [sE0, sE1]; refine takeC 7 29 (v := ?_) o92_5_7 rfl (by kernel_rfl) (by kernel_rfl) (by kernel_rfl) (by rfl) (fun _ _ _ h => h) (by rfl) ?y7_5 ?_
   case y7_5 => intro w; go_simp; try with_reducible rfl
   simp only [sE0, sE1]; refine loadC 2 24 (v := ?_) o92_5_2 rfl (by kernel_rfl) (by kernel_rfl) (by kernel_rfl) (by kernel_rfl) (fun _ _ _ h => h) (by rfl) ?y2_6 (by exact hS) ?_
   case y2_6 => intro w h; (try dsimp only at h); go_simp; try with_reducible rfl
   simp only [sE0, sE1]; refine loadC 5 27 (v := ?_) o92_5_5 rfl (by kernel_rfl) (by kernel_rfl) (by kernel_rfl) (by kernel_rfl) (fun _ _ _ h => h) (by rfl) ?y5_7 (by exact hS) ?_
   case y5_7 => intro w h; (try dsimp only at h); go_simp; try with_reducible rfl
   simp only [sE0, sE1]; refine loadC 8 30 (v := ?_) o92_5_8 rfl (by kernel_rfl) (by kernel_rfl) (by kernel_rfl) (by kernel_rfl) (fun _ _ _ h => h) (by rfl) ?y8_8 (by exact hS) ?_
   case y8_8 => intro w h; (try dsimp only at h); go_simp; try with_reducible rfl
   simp only [sE0, sE1]; refine readyC (rs := [6, 9]) (by kernel_rfl) (by simp) (each_cons (runC o92_5_6 (by rfl) (fun K hK => ?_)) (each_cons (runC o92_5_9 (by rfl) (fun K hK => ?_)) each_nil))
   ·obtain ⟨vz, hlook, hoi, hzl, hback⟩ := GMap.look hM (by omega) x.pos hkx
    have hw0 := Nat.le_refl wc.heap.size; have hgb := gb_refl wc vz.ownBlock; have hbase := hM.lt; go_simp; refine hK.out _ _ (fun _ => ?_) ?_
    ·(exact hS)
    clear hK K; try simp only [Act.put, sEt, sE0, sE1]
    refine readyC (rs := [9]) (by kernel_rfl) (by simp) (each_cons (runC o92_5_9 (by rfl) (fun K hK => ?_)) each_nil)
    have hN := cells_newG wc [.int .i64 x.value] 3; have hbn := below_alloc wc (.cells #[.int .i64 x.value] 3); go_simp; obtain ⟨wn, hwn⟩ : ∃ wn, wc.alloc (.cells #[.int .i64 x.value] 3) = wn := ⟨_, rfl⟩
    rw [hwn] at hN hbn ⊢
    clear hwn; replace hM := GMap.below hM hbn; replace hx9 := cells_later hx9 hbn; have hS : wn.cell? ⟨X9, 1, none⟩ = some (.string x.pos) ∧ wn.cell? ⟨X9, 2, none⟩ = some (.int .i64 x.value) := ⟨cell_at hx9 1 rfl, cell_at hx9 2 rfl⟩
    replace HRc := Lib.hid (HRc.out.below hbn); replace hbA := below_step hbA hbn; try replace hoi := World.ownsInts.kept hoi (gb_below hbn (some wc.heap.size)) (.inr fun e => by obtain ⟨_, cur, hc⟩ := own_block hoi.1 _ e; have := lt_of_heap hc; omega)
    try replace hgb := gb_trans hgb (gb_below hbn _)
    try replace hw0 := Nat.le_trans hw0 hbn.size
    clear hbn; obtain ⟨wc, rfl⟩ : ∃ wc, wc = wn := ⟨_, rfl⟩
    refine hK.out _ _ (fun _ => ?_) ?_
    ·(exact hS)
    clear hK K; try simp only [Act.put, sEt, sE0, sE1]
    refine readyC (rs := [10]) (by kernel_rfl) (by simp) (each_cons (runC o92_5_10 (by rfl) (fun K hK => ?_)) each_nil)
    refine wp_append_loc _ (.tmp 28) (.tmp 31) 22 rfl (w.heap.size + 1) 3 i0 (.int .i64 0) 1 8 Tryz.underlying22 hi hz0 hz1 hz2 rfl (by decide) vz (vOf (R.take k) x.pos).length _ rfl hoi.1 _ 1 1 [.int .i64 x.value] rfl rfl hN (by simp [Value.oneCell']) (by unfold maxLen; omega) (by omega) (by have h1 := hbA.size; omega) ?_
    intro v2 w2 hown2 hgrow hloc; have hall := gb_trans hgb hgrow; obtain ⟨w3, hput, hM3, hg3⟩ := hback w2 v2 (vOf (R.take k) x.pos ++ [x.value]) hall (hoi.appended hown2 hwf) (by simp) (by simp; omega) (hloc.imp id fun h => ⟨_, h, hw0⟩)
    have hbB := hbA.grown hgrow hbA.size fun r hr => by have := (own_block hoi.1 r hr).1; omega
    have HR2 : Hid (Ass w2 (w.heap.size + 1) (.slice (some ⟨g, off, none⟩) n vc) R) := Lib.hid (Rows.row HRc.out hgrow fun r hr => by
     obtain ⟨_, cur, hc⟩ := own_block hoi.1 r hr; exact ⟨cur, _, _, hc, by decide⟩)
    replace hx9 := (hgrow.block _ (lt_of_heap hx9) (fun e => by obtain ⟨_, cur, hc⟩ := own_block hoi.1 _ e.symm; rw [hx9] at hc; simp at hc)).trans hx9
    have hS : w2.cell? ⟨X9, 1, none⟩ = some (.string x.pos) ∧ w2.cell? ⟨X9, 2, none⟩ = some (.int .i64 x.value) := ⟨cell_at hx9 1 rfl, cell_at hx9 2 rfl⟩
    have hbC := below_gbG hbB hg3 (Nat.le_refl _); have HR3 := Lib.hid (Ass.other HR2.out hg3 (Nat.lt_succ_self _)); clear hback hoi hgb hgrow hloc hall hown2 hN hM HR2 hbB HRc hbA; refine hK.out _ _ (fun _ => ?_) ?_
    ·(exact hS)
    clear hK K; try simp only [Act.put, sEt, sE0, sE1]
    refine readyC (rs := [11]) (by kernel_rfl) (by simp) (each_cons (runC o92_5_11 (by rfl) (fun K hK => ?_)) each_nil)
    go_simp; refine hK.out _ _ (fun h => absurd h (by decide)) ?_
    clear hK K; try simp only [sEt, sE0, sE1]
    refine doneC (by kernel_rfl) ?_ _
    rw [← Hst.out] at hM3
    have HM3 := Lib.hid hM3; clear hput hM3 hg3 hbase; go_wp2_with fail
    go_roundw
    case rel => exact ⟨k + 1, by omega, by go_num, HM3, HR3, hbC⟩
    case measure => simp [intOf]; omega
   ·have hN := cells_newG wc [.int .i64 x.value] 3
    have hbn := below_alloc wc (.cells #[.int .i64 x.value] 3); go_simp; obtain ⟨wn, hwn⟩ : ∃ wn, wc.alloc (.cells #[.int .i64 x.value] 3) = wn := ⟨_, rfl⟩
    rw [hwn] at hN hbn ⊢
    clear hwn; replace hM := GMap.below hM hbn; replace hx9 := cells_later hx9 hbn; have hS : wn.cell? ⟨X9, 1, none⟩ = some (.string x.pos) ∧ wn.cell? ⟨X9, 2, none⟩ = some (.int .i64 x.value) := ⟨cell_at hx9 1 rfl, cell_at hx9 2 rfl⟩
    replace HRc := Lib.hid (HRc.out.below hbn); replace hbA := below_step hbA hbn; try replace hoi := World.ownsInts.kept hoi (gb_below hbn (some wc.heap.size)) (.inr fun e => by obtain ⟨_, cur, hc⟩ := own_block hoi.1 _ e; have := lt_of_heap hc; omega)
    try replace hgb := gb_trans hgb (gb_below hbn _)
    try replace hw0 := Nat.le_trans hw0 hbn.size
    clear hbn; obtain ⟨wc, rfl⟩ : ∃ wc, wc = wn := ⟨_, rfl⟩
    refine hK.out _ _ (fun _ => ?_) ?_
    ·(exact hS)
    clear hK K; try simp only [Act.put, sEt, sE0, sE1]
    refine readyC (rs := [6]) (by kernel_rfl) (by simp) (each_cons (runC o92_5_6 (by rfl) (fun K hK => ?_)) each_nil)
    obtain ⟨vz, hlook, hoi, hzl, hback⟩ := GMap.look hM (by omega) x.pos hkx
    have hw0 := Nat.le_refl wc.heap.size; have hgb := gb_refl wc vz.ownBlock; have hbase := hM.lt; go_simp; refine hK.out _ _ (fun _ => ?_) ?_
    ·(exact hS)
    clear hK K; try simp only [Act.put, sEt, sE0, sE1]
    refine readyC (rs := [10]) (by kernel_rfl) (by simp) (each_cons (runC o92_5_10 (by rfl) (fun K hK => ?_)) each_nil)
    refine wp_append_loc _ (.tmp 28) (.tmp 31) 22 rfl (w.heap.size + 1) 3 i0 (.int .i64 0) 1 8 Tryz.underlying22 hi hz0 hz1 hz2 rfl (by decide) vz (vOf (R.take k) x.pos).length _ rfl hoi.1 _ 1 1 [.int .i64 x.value] rfl rfl hN (by simp [Value.oneCell']) (by unfold maxLen; omega) (by omega) (by have h1 := hbA.size; omega) ?_
    intro v2 w2 hown2 hgrow hloc; have hall := gb_trans hgb hgrow; obtain ⟨w3, hput, hM3, hg3⟩ := hback w2 v2 (vOf (R.take k) x.pos ++ [x.value]) hall (hoi.appended hown2 hwf) (by simp) (by simp; omega) (hloc.imp id fun h => ⟨_, h, hw0⟩)
    have hbB := hbA.grown hgrow hbA.size fun r hr => by have := (own_block hoi.1 r hr).1; omega
    have HR2 : Hid (Ass w2 (w.heap.size + 1) (.slice (some ⟨g, off, none⟩) n vc) R) := Lib.hid (Rows.row HRc.out hgrow fun r hr => by
     obtain ⟨_, cur, hc⟩ := own_block hoi.1 r hr; exact ⟨cur, _, _, hc, by decide⟩)
    replace hx9 := (hgrow.block _ (lt_of_heap hx9) (fun e => by obtain ⟨_, cur, hc⟩ := own_block hoi.1 _ e.symm; rw [hx9] at hc; simp at hc)).trans hx9
    have hS : w2.cell? ⟨X9, 1, none⟩ = some (.string x.pos) ∧ w2.cell? ⟨X9, 2, none⟩ = some (.int .i64 x.value) := ⟨cell_at hx9 1 rfl, cell_at hx9 2 rfl⟩
    have hbC := below_gbG hbB hg3 (Nat.le_refl _); have HR3 := Lib.hid (Ass.other HR2.out hg3 (Nat.lt_succ_self _)); clear hback hoi hgb hgrow hloc hall hown2 hN hM HR2 hbB HRc hbA; refine hK.out _ _ (fun _ => ?_) ?_
    ·(exact hS)
    clear hK K; try simp only [Act.put, sEt, sE0, sE1]
    refine readyC (rs := [11]) (by kernel_rfl) (by simp) (each_cons (runC o92_5_11 (by rfl) (fun K hK => ?_)) each_nil)
    go_simp; refine hK.out _ _ (fun h => absurd h (by decide)) ?_
    clear hK K; try simp only [sEt, sE0, sE1]
    refine doneC (by kernel_rfl) ?_ _
    rw [← Hst.out] at hM3
    have HM3 := Lib.hid hM3; clear hput hM3 hg3 hbase; go_wp2_with fail
    go_roundw
    case rel => exact ⟨k + 1, by omega, by go_num, HM3, HR3, hbC⟩
    case measure => simp [intOf]; omega
  ·obtain rfl : k = n := by omega
   rw [Hall.out] at HM
   have HZ := Lib.hid (fun (q : ByteArray) (z : Int) (h : z ∈ vOf R q) => show -9223372036854775808 ≤ z ∧ z ≤ 9223372036854775807 by
    obtain ⟨x, hx, rfl⟩ := List.mem_map.1 h; have := (Hs.out x (List.mem_filter.1 hx).1).2.2
    omega)
   have HZl := Lib.hid (fun (q : ByteArray) => show (vOf R q).length ≤ 12 from Nat.le_trans (vOf_len R q) (by rw [Hn.out]; exact hRl))
   obtain ⟨Z, hZe⟩ : ∃ Z, vOf R = Z := ⟨_, rfl⟩
   have HZe := Lib.hid hZe; rw [hZe] at HM HZ HZl
   clear hZe; obtain ⟨W7, hW7⟩ : ∃ W7, W7 = wr.alloc (.map #[] 0) := ⟨_, rfl⟩
   obtain ⟨b2, hb2e⟩ : ∃ b2, b2 = wr.heap.size := ⟨_, rfl⟩
   have hb7 : Below wr.heap.size wr W7 := by rw [hW7]; exact below_alloc wr _
   have HM7 := Lib.hid (HM.out.below hb7); have HI7 : Hid (IMap W7 b2 0 (lvK Z t ps 0)) := Lib.hid (by rw [hW7, hb2e, show lvK Z t ps 0 = fun _ => none from by funext q; rfl]; exact IMap.made wr)
   have hbw7 := below_step hb hb7; have hb2w : w.heap.size < b2 := by rw [hb2e]; exact HM.out.lt.1
   go_upto_region 8 with fail
   rw [← hW7, ← hb2e]; clear hW7 hb2e hmm HM HR hb hb7 Hs Hn Hall; go_wp2_with fail
   go_loopw [37] (fun i wx => ∃ j : Nat, j ≤ np ∧ i = .int .i64 j ∧ Hid (GMap wx (w.heap.size + 1) w.heap.size k Z) ∧ Hid (IMap wx b2 j (lvK Z t ps j)) ∧ Below w.heap.size w wx) (fun i _ => np - (intOf i).toNat)
   case atStart => exact ⟨0, Nat.zero_le _, rfl, HM7, HI7, hbw7⟩
   case round =>
    clear HM7 HI7 hbw7; obtain ⟨j, hj, rfl, HM, HI, hb⟩ := hrel; by_cases hjlt : j < np
    ·obtain ⟨y, hy⟩ : ∃ y, ps[j]? = some y := ⟨_, List.getElem?_eq_getElem (by rw [Hnp.out]; exact hjlt)⟩
     have hyS := Hp.out y (List.mem_of_getElem? hy); obtain ⟨hy0, hy1⟩ := Hp2.out y (List.mem_of_getElem? hy); have hky : y.pos.size ≤ 1000000 := Nat.le_trans hyS.1 (by decide)
     have hmul0 : 0 ≤ y.many * t := Int.mul_nonneg hy0 (by omega)
     have hmul1 : y.many * t ≤ 240 := by have h1 := Int.mul_le_mul hy1 ht2 (by omega) (by omega); omega
     have Hst := Lib.hid (show lvK Z t ps (j + 1) = fun q => if beqS y.pos q && !(Z y.pos).isEmpty then some (lvAt (Z y.pos) y.many t) else lvK Z t ps j q by funext q; rw [lvK, hy]; rfl)
     rcases pl_at HPl.out with ⟨_, h⟩ | ⟨pg, po, pcap, e, _, hpg, _, hpcell⟩
     ·rw [h] at hy; simp at hy
     simp only [Value.slice.injEq] at e
     obtain ⟨rfl, -, rfl⟩ := e; obtain ⟨q0, q1⟩ := hpcell j y hy; have p0 := below_cell hb q0; have p1 := below_cell hb q1; obtain ⟨wA, hwA⟩ : ∃ wA, wA = wr.alloc (.cells #[.string y.pos, .int .i64 y.many] 125) := ⟨_, rfl⟩
     obtain ⟨X12, hX12⟩ : ∃ X12, X12 = wr.heap.size := ⟨_, rfl⟩
     have hbr : Below wr.heap.size wr wA := by rw [hwA]; exact below_alloc wr _
     have hx12 : wA.heap[X12]? = some (.cells #[.string y.pos, .int .i64 y.many] 125 (0, 0)) := by rw [hwA, hX12]; exact heap_alloc_new wr _
     have HMA := Lib.hid (HM.out.below hbr); have HIA := Lib.hid (HI.out.below hbr); have hbA := below_step hb hbr; obtain ⟨vz, hlook, hoi, hzl, _⟩ := GMap.look HMA.out (by omega) y.pos hky
     obtain ⟨za, zc, rfl, hzcell⟩ := int_cell hoi; have x0 := cell_at hx12 0 rfl; have x1 := cell_at hx12 1 rfl; have hZl := HZl.out y.pos; obtain ⟨zn, hzn⟩ : ∃ zn, (Z y.pos).length = zn := ⟨_, rfl⟩
     have Hzn := Lib.hid hzn; rw [hzn] at hlook hZl
     clear hy hpcell q0 q1 HM HI hb hzn hoi hzl hyS; go_upto_region 11 with fail
     rw [← hwA, ← hX12]; clear hwA hX12 hbr p0 p1; by_cases hz0' : zn = 0
     ·have hS0 := Lib.hid (show lvK Z t ps (j + 1) = lvK Z t ps j by
       rw [Hst.out, List.eq_nil_of_length_eq_zero (Hzn.out.trans hz0')]; simp)
      subst hz0'
      have HI2 := Lib.hid (show IMap wA b2 (j + 1) (lvK Z t ps (j + 1)) by rw [hS0.out]; exact HIA.out.mono (Nat.le_succ _))
      clear hzcell; go_wp2_with fail
      go_roundw
      case rel => exact ⟨j + 1, by omega, by go_num, HMA, HI2, hbA⟩
      case measure => simp [intOf]; omega
     ·have hcond : decide (0 < zn) = true := decide_eq_true (by omega)
      obtain ⟨ix, hix⟩ : ∃ ix : Nat, min (y.many * t) ((zn : Int) - 1) = (ix : Int) := ⟨_, (Int.toNat_of_nonneg (by omega)).symm⟩
      have hixl : ix < zn := by omega
      have hw1 : IntKind.i64.wrap (y.many * t) = y.many * t := IntWalk.i64_in _ (by omega)
      have hw2 : IntKind.i64.wrap ((zn : Int) - 1) = (zn : Int) - 1 := IntWalk.i64_in _ (by omega)
      obtain ⟨z, hz⟩ : ∃ z, (Z y.pos)[ix]? = some z := ⟨_, List.getElem?_eq_getElem (by rw [Hzn.out]; exact hixl)⟩
      have hzb := HZ.out y.pos z (List.mem_of_getElem? hz); obtain ⟨gz, rfl, hzc⟩ := hzcell ix z hz
      have hlv := Lib.hid (show lvAt (Z y.pos) y.many t = z by
       unfold lvAt; rw [Hzn.out, hix]; simp [hz])
      have HS2 := Lib.hid (show lvK Z t ps (j + 1) = fun q => if beqS y.pos q then some z else lvK Z t ps j q by
       rw [Hst.out, hlv.out]; funext q
       have hne : (Z y.pos).isEmpty = false := by cases hq : Z y.pos with
        | nil => rw [hq] at hz; simp at hz
        | cons _ _ => rfl
       rw [hne]; simp)
      have HS := Lib.hid (show ∀ w', Below wA.heap.size wA w' → (True ∧ w'.cell? ⟨X12, 0, none⟩ = some (.string y.pos) ∧ w'.cell? ⟨X12, 1, none⟩ = some (.int .i64 y.many) ∧ w'.cell? ⟨gz, ix, none⟩ = some (.int .i64 z)) from fun w' hb => ⟨trivial, below_cell hb x0, below_cell hb x1, below_cell hb hzc⟩)
      have hbd := (Below.refl wA.heap.size wA).drew
      have hgz : gz ≠ b2 := by
       rintro rfl; obtain ⟨es, cl, h⟩ := HIA.out.map; simp [World.cell?, h] at hzc
      have hXb : X12 ≠ b2 := by
       rintro rfl; obtain ⟨es, cl, h⟩ := HIA.out.map; rw [h] at hx12; cases hx12
      clear hz0' hzcell hz hzc Hst hlv; go_upto_region 13 with fail
      show Code.wp _ (Code.region 13 o92_13 true) _ _ _
      refine region_start 15 (fun w' => True ∧ w'.cell? ⟨X12, 0, none⟩ = some (.string y.pos) ∧ w'.cell? ⟨X12, 1, none⟩ = some (.int .i64 y.many) ∧ w'.cell? ⟨gz, ix, none⟩ = some (.int .i64 z)) (by kernel_rfl) rfl ?_ (fun hHeld => ?_)
      ·(exact HS.out _ (by first | exact hbd))
      refine take_to 0 48 (bQ 15 1) (v := ?_) o92_13_0 rfl o92_13_ns (by kernel_rfl) (by kernel_rfl) (fun _ _ _ h => h) (by rfl) ?y0t (by assumption) ?_
      case y0t => intro w h; (try dsimp only at h); go_simp; try with_reducible rfl
      simp only [sE0, sE1]; refine take_to 1 49 (bQ 15 3) (v := ?_) o92_13_1 rfl o92_13_ns (by kernel_rfl) (by kernel_rfl) (fun _ _ _ h => h) (by rfl) ?y1t (by assumption) ?_
      case y1t => intro w h; (try dsimp only at h); go_simp; try with_reducible rfl
      simp only [sE0, sE1]; refine take_to 2 50 (bQ 15 7) (v := ?_) o92_13_2 rfl o92_13_ns (by kernel_rfl) (by kernel_rfl) (fun _ _ _ h => h) (by rfl) ?y2t (by assumption) ?_
      case y2t => intro w h; (try dsimp only at h); go_simp; try with_reducible rfl
      simp only [sE0, sE1]; refine take_to 3 51 (bQ 15 15) (v := ?_) o92_13_3 rfl o92_13_ns (by kernel_rfl) (by kernel_rfl) (fun _ _ _ h => h) (by rfl) ?y3t (by assumption) ?_
      case y3t => intro w h; (try dsimp only at h); go_simp; try with_reducible rfl
      simp only [sE0, sE1]; refine take_to 4 52 (bQ 15 31) (v := ?_) o92_13_4 rfl o92_13_ns (by kernel_rfl) (by kernel_rfl) (fun _ _ _ h => h) (by rfl) ?y4t (by assumption) ?_
      case y4t => intro w h; (try dsimp only at h); go_simp; try with_reducible rfl
      simp only [sE0, sE1]; refine take_to 5 53 (bQ 15 63) (v := ?_) o92_13_5 rfl o92_13_ns (by kernel_rfl) (by kernel_rfl) (fun _ _ _ h => h) (by rfl) ?y5t (by assumption) ?_
      case y5t => intro w h; (try dsimp only at h); go_simp; try with_reducible rfl
      simp only [sE0, sE1]; refine take_to 6 54 (bQ 15 127) (v := ?_) o92_13_6 rfl o92_13_ns (by kernel_rfl) (by kernel_rfl) (fun _ _ _ h => h) (by rfl) ?y6t (by assumption) ?_
      case y6t => intro w h; (try dsimp only at h); go_simp; try with_reducible rfl
      simp only [sE0, sE1]; refine take_to 7 55 (bQ 15 255) (v := ?_) o92_13_7 rfl o92_13_ns (by kernel_rfl) (by kernel_rfl) (fun _ _ _ h => h) (by rfl) ?y7t (by assumption) ?_
      case y7t => intro w h; (try dsimp only at h); go_simp; try with_reducible rfl
      simp only [sE0, sE1]; refine take_to 8 56 (bQ 15 511) (v := ?_) o92_13_8 rfl o92_13_ns (by kernel_rfl) (by kernel_rfl) (fun _ _ _ h => h) (by rfl) ?y8t (by assumption) ?_
      case y8t => intro w h; (try dsimp only at h); go_simp; try with_reducible rfl
      simp only [sE0, sE1]; refine take_to 9 57 (bQ 15 1023) (v := ?_) o92_13_9 rfl o92_13_ns (by kernel_rfl) (by kernel_rfl) (fun _ _ _ h => h) (by rfl) ?y9t (by assumption) ?_
      case y9t => intro w h; (try dsimp only at h); go_simp; try with_reducible rfl
      simp only [sE0, sE1]; refine take_to 10 58 (bQ 15 2047) (v := ?_) o92_13_10 rfl o92_13_ns (by kernel_rfl) (by kernel_rfl) (fun _ _ _ h => h) (by rfl) ?y10t (by assumption) ?_
      case y10t => intro w h; (try dsimp only at h); go_simp; try with_reducible rfl
      simp only [sE0, sE1]; refine take_to 11 59 (bQ 15 4095) (v := .int .i64 (ix : Int)) o92_13_11 rfl o92_13_ns (by kernel_rfl) (by kernel_rfl) (fun _ _ _ h => h) (by rfl) ?y11t (by assumption) ?_
      case y11t =>
       intro w hSw; try dsimp only at hSw
       go_simp; try rw [hw1, hw2, hix]
      simp only [sE0, sE1]; refine take_to 12 60 (bQ 15 8191) (v := ?_) o92_13_12 rfl o92_13_ns (by kernel_rfl) (by kernel_rfl) (fun _ _ _ h => h) (by rfl) ?y12t (by assumption) ?_
      case y12t => intro w h; (try dsimp only at h); go_simp; try with_reducible rfl
      simp only [sE0, sE1]; refine take_to 13 61 (bQ 15 16383) (v := ?_) o92_13_13 rfl o92_13_ns (by kernel_rfl) (by kernel_rfl) (fun _ _ _ h => h) (by rfl) ?y13t (by assumption) ?_
      case y13t => intro w h; (try dsimp only at h); go_simp; try with_reducible rfl
      simp only [sE0, sE1]; refine run_to 14 (bQ 15 32767) o92_13_14 (by kernel_rfl) (by kernel_rfl) (by rfl) (fun K hK => ?_)
      obtain ⟨wp, hput, hIp, hgp⟩ := (HIA.out.below hbd).put (by omega) y.pos hky z hzb
      go_simp; refine hK.out _ _ ?_ (fun hHeld => ?_)
      ·(exact ⟨trivial, gb_cell hgp (below_cell hbd x0) hXb, gb_cell hgp (below_cell hbd x1) hXb, gb_cell hgp (HS.out _ hbd).2.2.2 hgz⟩)
      clear hK K; try simp only [sEt, sE0, sE1]
      refine wpAnyH_done (by kernel_rfl) ?_ _
      rw [← HS2.out] at hIp
      have HI2 := Lib.hid hIp; have HM2 := Lib.hid (GMap.beside (HMA.out.below hbd) hgp (HIA.out.below hbd).map (by omega))
      have hbe := below_gbG (below_step hbA hbd) hgp (by omega)
      clear hHeld HS hput hIp hgp hbd HMA HIA hw1 hw2 hix; go_wp2_with fail
      go_roundw
      case rel => exact ⟨j + 1, by omega, by go_num, HM2, HI2, hbe⟩
      case measure => simp [intOf]; omega
    ·obtain rfl : j = np := by omega
     have HI2 := Lib.hid (HI.out.mono hm); clear HM HI; go_wp2_with fail
     go_ret
     exact ⟨b2, rfl, by rw [HZe.out]; exact HI2.out, by omega, hb⟩
end Go.Proofs.YtddnnjblpgfjeaaGreatDoor
/- The worths: the program's way. -/
namespace Go.Proofs.YtddnnjblpgfjeaaGreatDoor
open Go.RowKit

def cmpO (x y : OvD) : Int := Lib.compareInt y.worth x.worth
set_option maxRecDepth 100000 in
set_option maxHeartbeats 1000000 in
theorem worths1_calls (x y : OvD) (w : World) : Calls Tryz.prog 141 #[.agg #[.string x.player, .int .i64 x.worth, .int .i64 x.rank], .agg #[.string y.player, .int .i64 y.worth, .int .i64 y.rank]] w (CmpIs (cmpO x y) w) := by
 unfold cmpO
 go_enter Tryz.func141, Tryz.ntmps141
 go_wp2_with fail
 refine (intCmp_calls _ _ _).mono ?_
 rintro e w' ⟨rfl, rfl⟩
 go_wp2_with fail
 go_ret
 exact ⟨rfl, ((Gro.refl w).alloc _).alloc _⟩
set_option maxRecDepth 100000 in
set_option maxHeartbeats 1000000 in
theorem worthsFor1_calls (x y : OvD) (w : World) : Calls Tryz.prog 102 #[.agg #[.string x.player, .int .i64 x.worth, .int .i64 x.rank], .agg #[.string y.player, .int .i64 y.worth, .int .i64 y.rank]] w (CmpIs (cmpO x y) w) := by
 unfold cmpO
 go_enter Tryz.func102, Tryz.ntmps102
 go_wp2_with fail
 refine (intCmp_calls _ _ _).mono ?_
 rintro e w' ⟨rfl, rfl⟩
 go_wp2_with fail
 go_ret
 exact ⟨rfl, ((Gro.refl w).alloc _).alloc _⟩
set_option maxRecDepth 100000 in
set_option maxHeartbeats 1000000 in
theorem prices1_calls (x : OvD) (w : World) : Calls Tryz.prog 95 #[.agg #[.string x.player, .int .i64 x.worth, .int .i64 x.rank]] w (BoolIs (decide (x.worth ≤ 0)) w) := by
 go_enter Tryz.func95, Tryz.ntmps95
 go_wp2_with fail
 go_ret
 exact ⟨rfl, below_alloc w _⟩
set_option maxRecDepth 100000 in
set_option maxHeartbeats 1000000 in
theorem pricesOf1_calls (x : OvD) (w : World) : Calls Tryz.prog 97 #[.agg #[.string x.player, .int .i64 x.worth, .int .i64 x.rank]] w (BoolIs (decide (x.worth ≤ 0)) w) := by
 go_enter Tryz.func97, Tryz.ntmps97
 go_wp2_with fail
 go_ret
 exact ⟨rfl, below_alloc w _⟩

/-- Worths in memory of the call's own: they may be written. -/
def FreshOv (lo : Nat) (xs : List OvD) (w : World) (v : Value) : Prop := (v = .slice none 0 0 ∧ xs = []) ∨ ∃ g off c, v = .slice (some ⟨g, off, none⟩) xs.length c ∧ RowsAt w 74 g off 3 (xs.map ovRow) ∧ xs.length ≤ c ∧ lo ≤ g
theorem FreshOv.ovs {lo : Nat} {xs : List OvD} {w : World} {v : Value} (h : FreshOv lo xs w v) (hn : xs.length ≤ 1000000) : Ovs w lo v xs := by
 rcases h with ⟨rfl, rfl⟩ | ⟨g, off, c, rfl, hr, hc, hl⟩
 ·exact ⟨by simp, by simp, .inl ⟨rfl, rfl⟩⟩
 ·have := hr.rows (by simpa using hn) hl (by simpa using hc)
  rw [List.length_map] at this
  exact this
theorem FreshOv.below {lo : Nat} {xs : List OvD} {w w' : World} {v : Value} (h : FreshOv lo xs w v) (hb : Below w.heap.size w w') : FreshOv lo xs w' v := by
 rcases h with ⟨rfl, rfl⟩ | ⟨g, off, c, rfl, hr, hc, hl⟩
 ·exact .inl ⟨rfl, rfl⟩
 ·exact .inr ⟨g, off, c, rfl, hr.below hb, hc, hl⟩
theorem fresh_ownOv {lo : Nat} {xs : List OvD} {w : World} {v : Value} (h : OwnOv w lo v xs) : FreshOv lo xs w v := by
 unfold OwnOv at h
 obtain ⟨h1, ⟨rfl, h0⟩ | ⟨g, cap, cur, rfl, hb, hg, hn, hm, hc, ht⟩⟩ := h
 ·exact .inl ⟨rfl, List.eq_nil_of_length_eq_zero h0⟩
 ·refine .inr ⟨g, 0, cap, rfl, ?_, hn, hb⟩
  refine (RowsAt.of_owns (cap := cap) (base := lo) (n := xs.length) ?_ (ov_each xs)).1; rw [List.length_map]; exact ⟨h1, .inr ⟨g, cap, cur, rfl, hb, hg, hn, hm, hc, ht⟩⟩
def MadeOv (xs : List OvD) (w : World) (e : Ending) (w' : World) : Prop := ∃ v, FreshOv w.heap.size xs w' v ∧ e = .returned v ∧ Below w.heap.size w w'
theorem ov_rank {w : World} {g off i : Nat} {xs : List OvD} {x : OvD} (h : RowsAt w 74 g off 3 (xs.map ovRow)) (hi : xs[i]? = some x) (r : Int) :
  RowsAt (w.setCell ⟨g, off + i * 3 + 2, none⟩ (.int .i64 r)) 74 g off 3 ((xs.set i ⟨x.player, x.worth, r⟩).map ovRow) := by
 have r0 := h.set (show (xs.map ovRow)[i]? = some (ovRow x) by simp [hi]) (show 2 < 3 by omega) (.int .i64 r)
 rw [List.map_set]; exact r0

/-- Before they are put in order. -/
def overP (L : ByteArray → Option Int) (xs : List AsD) : List OvD := xs.filterMap fun x => (L x.pos).map fun l => ⟨x.player, x.value - l, 0⟩
theorem overP_snoc {L : ByteArray → Option Int} {xs : List AsD} {j : Nat} {x : AsD} (h : xs[j]? = some x) : overP L (xs.take (j + 1)) = overP L (xs.take j) ++ ((L x.pos).map fun l => (⟨x.player, x.value - l, 0⟩ : OvD)).toList := by
 rw [take_snocG h]
 unfold overP
 rw [List.filterMap_append]
 cases hq : L x.pos <;> simp [hq]
theorem overP_len (L : ByteArray → Option Int) (xs : List AsD) : (overP L xs).length ≤ xs.length := List.length_filterMap_le _ _
def ovAt (l : List OvD) (i : Nat) : OvD := l[i]?.getD default
theorem ovAt_some {l : List OvD} {i : Nat} {x : OvD} (h : l[i]? = some x) : ovAt l i = x := by simp [ovAt, h]
/-- The rank of the one at i: as the one before, or by number. -/
def rkG (l : List OvD) : Nat → Int
 | 0 => 1
 | i + 1 => if (ovAt l i).worth = (ovAt l (i + 1)).worth then rkG l i else (i : Int) + 2
def rkTo (l : List OvD) (k : Nat) : List OvD := l.mapIdx fun i x => if i < k then ⟨x.player, x.worth, rkG l i⟩ else x
theorem rkTo_zero (l : List OvD) : rkTo l 0 = l := by
 refine List.ext_getElem? fun i => ?_
 unfold rkTo
 rw [List.getElem?_mapIdx]
 cases l[i]? <;> simp
theorem rkTo_len (l : List OvD) (k : Nat) : (rkTo l k).length = l.length := by unfold rkTo; simp
theorem rkTo_at {l : List OvD} {i : Nat} {x : OvD} (k : Nat) (h : l[i]? = some x) : (rkTo l k)[i]? = some (if i < k then ⟨x.player, x.worth, rkG l i⟩ else x) := by
 unfold rkTo
 rw [List.getElem?_mapIdx, h]; rfl
theorem rkTo_succ {l : List OvD} {k : Nat} {x : OvD} (h : l[k]? = some x) : (rkTo l k).set k ⟨x.player, x.worth, rkG l k⟩ = rkTo l (k + 1) := by
 refine List.ext_getElem? fun i => ?_
 have hk := (List.getElem?_eq_some_iff.1 h).1
 rw [List.getElem?_set]
 by_cases e : k = i
 ·subst e
  rw [if_pos rfl, if_pos (by rw [rkTo_len]; exact hk), rkTo_at (k + 1) h, if_pos (Nat.lt_succ_self k)]
 ·rw [if_neg e]
  unfold rkTo; rw [List.getElem?_mapIdx, List.getElem?_mapIdx]; cases hq : l[i]? with
  | none => rfl
  | some y =>
   simp only [Option.map_some]; by_cases h1 : i < k
   ·rw [if_pos h1, if_pos (by omega)]
   ·rw [if_neg h1, if_neg (by omega)]
def o93_15 : Array Go.Oper := #[
 ⟨some 56, .move (.tmp 13), 3, "worth.go:92", #[], none⟩,
 ⟨some 57, .binOp .gtr 3 (.tmp 56) (.const (.int .i64 0)) 3, 4, "worth.go:92", #[⟨0, .data⟩], none⟩,
 ⟨some 58, .move (.tmp 57), 4, "worth.go:92", #[⟨1, .data⟩], none⟩,
 ⟨some 59, .move (.tmp 8), 62, "worth.go:92", #[⟨2, .guard⟩], some (2, true)⟩,
 ⟨some 60, .move (.tmp 13), 3, "worth.go:92", #[⟨2, .guard⟩], some (2, true)⟩,
 ⟨some 61, .binOp .sub 3 (.tmp 60) (.const (.int .i64 1)) 3, 3, "worth.go:92", #[⟨4, .data⟩, ⟨2, .guard⟩], some (2, true)⟩,
 ⟨some 62, .indexAddr 62 (.tmp 59) (.tmp 61), 0, "worth.go:92", #[⟨3, .data⟩, ⟨5, .data⟩, ⟨2, .guard⟩], some (2, true)⟩,
 ⟨some 63, .fieldAddr 74 (.tmp 62) 1, 0, "worth.go:92", #[⟨6, .data⟩, ⟨2, .guard⟩], some (2, true)⟩,
 ⟨some 64, .load 3 (.tmp 63), 3, "worth.go:92", #[⟨7, .data⟩, ⟨2, .guard⟩], some (2, true)⟩,
 ⟨some 65, .move (.tmp 8), 62, "worth.go:92", #[⟨2, .guard⟩], some (2, true)⟩,
 ⟨some 66, .move (.tmp 13), 3, "worth.go:92", #[⟨2, .guard⟩], some (2, true)⟩,
 ⟨some 67, .indexAddr 62 (.tmp 65) (.tmp 66), 0, "worth.go:92", #[⟨9, .data⟩, ⟨10, .data⟩, ⟨2, .guard⟩], some (2, true)⟩,
 ⟨some 68, .fieldAddr 74 (.tmp 67) 1, 0, "worth.go:92", #[⟨11, .data⟩, ⟨2, .guard⟩], some (2, true)⟩,
 ⟨some 69, .load 3 (.tmp 68), 3, "worth.go:92", #[⟨12, .data⟩, ⟨2, .guard⟩], some (2, true)⟩,
 ⟨some 70, .binOp .eql 3 (.tmp 64) (.tmp 69) 3, 4, "worth.go:92", #[⟨8, .data⟩, ⟨13, .data⟩, ⟨2, .guard⟩], some (2, true)⟩,
 ⟨some 71, .pick (.tmp 58) (.tmp 70) (.const (.bool false)), 4, "worth.go:92", #[⟨2, .data⟩, ⟨14, .data⟩], none⟩]
theorem o93_15_0 : o93_15[0]? = some (⟨some 56, .move (.tmp 13), 3, "worth.go:92", #[], none⟩ : Go.Oper) := rfl
theorem o93_15_1 : o93_15[1]? = some (⟨some 57, .binOp .gtr 3 (.tmp 56) (.const (.int .i64 0)) 3, 4, "worth.go:92", #[⟨0, .data⟩], none⟩ : Go.Oper) := rfl
theorem o93_15_2 : o93_15[2]? = some (⟨some 58, .move (.tmp 57), 4, "worth.go:92", #[⟨1, .data⟩], none⟩ : Go.Oper) := rfl
theorem o93_15_3 : o93_15[3]? = some (⟨some 59, .move (.tmp 8), 62, "worth.go:92", #[⟨2, .guard⟩], some (2, true)⟩ : Go.Oper) := rfl
theorem o93_15_4 : o93_15[4]? = some (⟨some 60, .move (.tmp 13), 3, "worth.go:92", #[⟨2, .guard⟩], some (2, true)⟩ : Go.Oper) := rfl
theorem o93_15_5 : o93_15[5]? = some (⟨some 61, .binOp .sub 3 (.tmp 60) (.const (.int .i64 1)) 3, 3, "worth.go:92", #[⟨4, .data⟩, ⟨2, .guard⟩], some (2, true)⟩ : Go.Oper) := rfl
theorem o93_15_6 : o93_15[6]? = some (⟨some 62, .indexAddr 62 (.tmp 59) (.tmp 61), 0, "worth.go:92", #[⟨3, .data⟩, ⟨5, .data⟩, ⟨2, .guard⟩], some (2, true)⟩ : Go.Oper) := rfl
theorem o93_15_7 : o93_15[7]? = some (⟨some 63, .fieldAddr 74 (.tmp 62) 1, 0, "worth.go:92", #[⟨6, .data⟩, ⟨2, .guard⟩], some (2, true)⟩ : Go.Oper) := rfl
theorem o93_15_8 : o93_15[8]? = some (⟨some 64, .load 3 (.tmp 63), 3, "worth.go:92", #[⟨7, .data⟩, ⟨2, .guard⟩], some (2, true)⟩ : Go.Oper) := rfl
theorem o93_15_9 : o93_15[9]? = some (⟨some 65, .move (.tmp 8), 62, "worth.go:92", #[⟨2, .guard⟩], some (2, true)⟩ : Go.Oper) := rfl
theorem o93_15_10 : o93_15[10]? = some (⟨some 66, .move (.tmp 13), 3, "worth.go:92", #[⟨2, .guard⟩], some (2, true)⟩ : Go.Oper) := rfl
theorem o93_15_11 : o93_15[11]? = some (⟨some 67, .indexAddr 62 (.tmp 65) (.tmp 66), 0, "worth.go:92", #[⟨9, .data⟩, ⟨10, .data⟩, ⟨2, .guard⟩], some (2, true)⟩ : Go.Oper) := rfl
theorem o93_15_12 : o93_15[12]? = some (⟨some 68, .fieldAddr 74 (.tmp 67) 1, 0, "worth.go:92", #[⟨11, .data⟩, ⟨2, .guard⟩], some (2, true)⟩ : Go.Oper) := rfl
theorem o93_15_13 : o93_15[13]? = some (⟨some 69, .load 3 (.tmp 68), 3, "worth.go:92", #[⟨12, .data⟩, ⟨2, .guard⟩], some (2, true)⟩ : Go.Oper) := rfl
theorem o93_15_14 : o93_15[14]? = some (⟨some 70, .binOp .eql 3 (.tmp 64) (.tmp 69) 3, 4, "worth.go:92", #[⟨8, .data⟩, ⟨13, .data⟩, ⟨2, .guard⟩], some (2, true)⟩ : Go.Oper) := rfl
theorem o93_15_15 : o93_15[15]? = some (⟨some 71, .pick (.tmp 58) (.tmp 70) (.const (.bool false)), 4, "worth.go:92", #[⟨2, .data⟩, ⟨14, .data⟩], none⟩ : Go.Oper) := rfl
theorem o93_15_ns : Go.Region.noSelect o93_15 = true := by kernel_rfl
theorem rkG_eq {l : List OvD} {k : Nat} {x y : OvD} (hx : l[k]? = some x) (hy : l[k + 1]? = some y) : rkG l (k + 1) = if x.worth = y.worth then rkG l k else (k : Int) + 2 := by
 rw [rkG, ovAt_some hx, ovAt_some hy]
set_option maxRecDepth 100000 in
set_option maxHeartbeats 8000000 in
theorem worthsOf_calls (lo lo' : Nat) (v u : Value) (xs : List AsD) (ps : List PlD) (t : Int) (w : World) (hv : Ass w lo v xs) (hP : Pls w lo' u ps) (hn : xs.length ≤ 12) (hs : ∀ x ∈ xs, SmallA x) (hf : ∀ x ∈ xs, FitA x) (hp : ∀ y ∈ ps, SmallP y) (hp2 : ∀ y ∈ ps, 0 ≤ y.many ∧ y.many ≤ 12) (hm : ps.length ≤ 10) (ht1 : 1 ≤ t) (ht2 : t ≤ 20)
  (hL : ∀ k l, lvK (vOf (rank xs)) t ps ps.length k = some l → -1000000 ≤ l ∧ l ≤ 1000000) :
  Calls Tryz.prog 93 #[v, u, .int .i64 t] w (MadeOv (rkTo (insL cmpO (overP (lvK (vOf (rank xs)) t ps ps.length) xs)) (insL cmpO (overP (lvK (vOf (rank xs)) t ps ps.length) xs)).length) w) := by
 obtain ⟨i0, hi, hz0, hz1, hz2⟩ := info_parts info_Ov
 have D := Lib.hid (levelsOf_calls lo lo' v u xs ps t w hv hP hn hs hp hp2 hm ht1 ht2)
 generalize lvK (vOf (rank xs)) t ps ps.length = L at D hL ⊢
 obtain ⟨RES, hRES⟩ : ∃ RES, rkTo (insL cmpO (overP L xs)) (insL cmpO (overP L xs)).length = RES := ⟨_, rfl⟩
 have HRES := Lib.hid hRES
 rw [hRES]
 clear hRES
 have HL := Lib.hid hL
 have Hs := Lib.hid hs
 have Hf := Lib.hid hf
 have HA := Lib.hid hv
 obtain ⟨pa, pc, rfl⟩ := pl_shape hP
 obtain ⟨a, c, rfl⟩ := as_shape hv
 generalize ps.length = np at *
 obtain ⟨n, hnn⟩ : ∃ n, xs.length = n := ⟨_, rfl⟩
 have Hn := Lib.hid hnn
 have Hall := Lib.hid (show xs.take n = xs by rw [← hnn, List.take_length])
 rw [hnn] at D HA hn ⊢
 clear hv hP hs hf hp hp2 hm ht1 ht2 hL hnn
 go_enter Tryz.func93, Tryz.ntmps93
 go_wp2_with fail
 refine D.out.mono ?_
 rintro e w1 ⟨b, rfl, hI, hbb, hb1⟩
 have HI0 := Lib.hid hI
 have hblt := hI.lt
 clear D hI
 go_wp2_with fail
 go_loopw [8, 20] (fun o i wr => ∃ k : Nat, k ≤ n ∧ i = .int .i64 k ∧ Hid (OwnOv wr w1.heap.size o (overP L (xs.take k))) ∧ Below w1.heap.size w1 wr) (fun _ i _ => n - (intOf i).toNat)
 case atStart => exact ⟨0, Nat.zero_le _, rfl, Lib.hid (by simpa [overP, OwnOv] using World.ownsRow_nil _ _ _ _), Below.refl _ _⟩
 case round =>
  obtain ⟨k, hk, rfl, Hown, hb⟩ := hrel; by_cases hlt : k < n
  ·obtain ⟨x, hx⟩ : ∃ x, xs[k]? = some x := ⟨_, List.getElem?_eq_getElem (by rw [Hn.out]; exact hlt)⟩
   have hsx := Hs.out x (List.mem_of_getElem? hx); obtain ⟨hf1, hf2⟩ := Hf.out x (List.mem_of_getElem? hx); have hkx : x.pos.size ≤ 1000000 := Nat.le_trans hsx.2.1 (by decide)
   have Hst := Lib.hid (overP_snoc (L := L) hx); rcases as_at HA.out with ⟨_, h⟩ | ⟨g, off, cap, e, _, hgl, _, hcell⟩
   ·rw [h] at hx; simp at hx
   simp only [Value.slice.injEq] at e
   obtain ⟨rfl, -, rfl⟩ := e; obtain ⟨q0, q1, q2⟩ := hcell k x hx; have hbr := below_step hb1 hb; have p0 := below_cell hbr q0; have p1 := below_cell hbr q1; have p2 := below_cell hbr q2; obtain ⟨wA, hwA⟩ : ∃ wA, wA = wr.alloc (.cells #[.string x.player, .string x.pos, .int .i64 x.value] 78) := ⟨_, rfl⟩
   obtain ⟨X10, hX10⟩ : ∃ X10, X10 = wr.heap.size := ⟨_, rfl⟩
   have hbA : Below wr.heap.size wr wA := by rw [hwA]; exact below_alloc wr _
   have hx10 : wA.heap[X10]? = some (.cells #[.string x.player, .string x.pos, .int .i64 x.value] 78 (0, 0)) := by rw [hwA, hX10]; exact heap_alloc_new wr _
   have hbw := below_step hb hbA; have hlook := (HI0.out.below hbw).lookOk x.pos hkx; have HO := Lib.hid (own_belowG Hown.out hbA); have x0 := cell_at hx10 0 rfl; have x1 := cell_at hx10 1 rfl; have x2 := cell_at hx10 2 rfl; clear hcell q0 q1 q2 hbr hsx Hown hb hx10 hx; go_upto_region 6 with fail
   rw [← hwA, ← hX10]; clear hwA hX10 hbA p0 p1 p2; cases hz : L x.pos with
   | none =>
    have Hst2 := Lib.hid (show overP L (xs.take (k + 1)) = overP L (xs.take k) by rw [Hst.out, hz]; simp)
    rw [hz] at hlook
    simp only [Option.getD_none, Option.isSome_none] at hlook
    clear Hst hz; go_wp2_with fail
    go_roundw
    case rel => exact ⟨k + 1, by omega, by go_num, Lib.hid (by rw [Hst2.out]; exact HO.out), hbw⟩
    case measure => simp [intOf]; omega
   | some z =>
    obtain ⟨hl1, hl2⟩ := HL.out x.pos z hz; have Hst2 := Lib.hid (show overP L (xs.take (k + 1)) = overP L (xs.take k) ++ [⟨x.player, x.value - z, 0⟩] by rw [Hst.out, hz]; simp)
    rw [hz] at hlook
    simp only [Option.getD_some, Option.isSome_some] at hlook
    have hcl : (overP L (xs.take k)).length ≤ 12 := Nat.le_trans (overP_len _ _) (Nat.le_trans (List.length_take_le' _ _) (by have := Hn.out; omega))
    generalize overP L (xs.take k) = C0 at HO Hst2 hcl
    have hownB := World.ownsRow.alloc HO.out (.cells #[.string x.player, .int .i64 (x.value - z), .int .i64 0] 74); clear Hst hz; go_wp2_with (at_builtin; refine wpList_append_own _ rfl _ _ 62 rfl w1.heap.size 74 i0 (.agg #[.string ⟨#[]⟩, .int .i64 0, .int .i64 0]) 3 32 Tryz.underlying62 hi hz0 hz1 hz2 rfl (by decide) _ _ _ rfl hownB ⟨_, 0, none⟩ 1 1 [.string x.player, .int .i64 (x.value - z), .int .i64 0] rfl rfl ?c1 ?c2 ?c3 ?c4 ?c5 ?_)
    case c1 => exact cells_newG wA [.string x.player, .int .i64 (x.value - z), .int .i64 0] _
    case c2 => simp [Value.oneCell']
    case c3 => unfold maxLen; omega
    case c4 => omega
    case c5 => have := hbw.size; simp; omega
    intro v' w5 hown5 hgrow _; have hbw5 := below_step hbw (below_alloc wA (.cells #[.string x.player, .int .i64 (x.value - z), .int .i64 0] 74)); have hb5 : Below w1.heap.size w1 w5 := hbw5.grown hgrow hbw5.size fun r hr => (own_block hownB r hr).1
    have HO5 : Hid (OwnOv w5 w1.heap.size v' (overP L (xs.take (k + 1)))) := Lib.hid (by
     rw [Hst2.out]; unfold OwnOv
     have e : ((C0 ++ [(⟨x.player, x.value - z, 0⟩ : OvD)]).map ovRow).flatten = (C0.map ovRow).flatten ++ [.string x.player, .int .i64 (x.value - z), .int .i64 0] := by simp [ovRow]
     rw [e, List.length_append, List.length_singleton]; exact hown5)
    clear hgrow hown5 hownB hbw5; go_wp2_with fail
    go_roundw
    case rel => exact ⟨k + 1, by omega, by go_num, HO5, hb5⟩
    case measure => simp [intOf]; omega
  ·obtain rfl : k = n := by omega
   rw [Hall.out] at Hown
   have hol : (overP L xs).length ≤ 12 := by have h1 := overP_len L xs; have h2 := Hn.out; omega
   have hfr := fresh_ownOv Hown.out; generalize overP L xs = OP at hfr hol HRES
   clear Hown; rcases hfr with ⟨rfl, rfl⟩ | ⟨g, off, cc, rfl, hr, hcc, hl⟩
   ·have e0 : insL cmpO ([] : List OvD) = [] := List.eq_nil_of_length_eq_zero (insL_len cmpO [])
    have hnil := Lib.hid (show RES = [] by rw [← HRES.out, e0]; rfl)
    clear HI0 HRES; go_wp2_with fail
    refine (sortStableOv0_calls _ _ _).mono ?_; rintro e w2 ⟨rfl, rfl⟩; go_wp2_with fail
    refine wp_loop_rounds 1 ?_; rw [rounds_succ]; go_wp2_with fail
    go_ret
    exact ⟨_, .inl ⟨rfl, hnil.out⟩, rfl, below_step hb1 hb⟩
   ·have DS := Lib.hid (sortStableOv_calls cmpO 141 #[] g off cc OP wr hr (by omega) (enters_of Tryz.func141 (by kernel_rfl) rfl) fun W x y _ => worths1_calls x y W)
    have hSl := insL_len cmpO OP; unfold SortedOv at DS
    generalize insL cmpO OP = SL at DS hSl HRES
    obtain ⟨m, hmm⟩ : ∃ m, SL.length = m := ⟨_, rfl⟩
    have Hm := Lib.hid hmm; rw [hmm] at HRES
    rw [← hSl, hmm] at DS hcc hol ⊢
    clear hr hSl hmm HI0; go_wp2_with fail
    refine DS.out.mono ?_; rintro e w2 ⟨rfl, hr2, hg2⟩; have hb2 := below_gbG hb hg2 hl; have HR0 : Hid (RowsAt w2 74 g off 3 ((rkTo SL 0).map ovRow)) := Lib.hid (by rw [rkTo_zero]; exact hr2)
    clear DS hg2 hr2; go_wp2_with fail
    go_loopw [47] (fun i wx => ∃ k : Nat, k ≤ m ∧ i = .int .i64 k ∧ Hid (RowsAt wx 74 g off 3 ((rkTo SL k).map ovRow)) ∧ Below w1.heap.size w1 wx) (fun i _ => m - (intOf i).toNat)
    case atStart => exact ⟨0, Nat.zero_le _, rfl, HR0, hb2⟩
    case round =>
     clear HR0 hb2; obtain ⟨j, hj, rfl, HR, hb⟩ := hrel; by_cases hlt : j < m
     ·obtain ⟨x, hx⟩ : ∃ x, SL[j]? = some x := ⟨_, List.getElem?_eq_getElem (by rw [Hm.out]; exact hlt)⟩
      have hxk : (rkTo SL j)[j]? = some x := by rw [rkTo_at j hx, if_neg (Nat.lt_irrefl j)]
      have hfz := fun o => HR.out.free o
      obtain ⟨c0, c1, c2⟩ := ov_cells HR.out hxk; obtain ⟨W2, hW2⟩ : ∃ W2, W2 = wr.setCell ⟨g, off + j * 3 + 2, none⟩ (.int .i64 (1 + (j : Int))) := ⟨_, rfl⟩
      have hr2 := ov_rank HR.out hxk (1 + (j : Int)); have hg2 : wr.grownBy W2 (some g) := by rw [hW2]; exact gb_setCell _ _ _ _
      rw [← hW2] at hr2
      have hb2 := below_gbG hb hg2 hl; have hxk2 : ((rkTo SL j).set j (⟨x.player, x.worth, 1 + (j : Int)⟩ : OvD))[j]? = some ⟨x.player, x.worth, 1 + (j : Int)⟩ := by rw [List.getElem?_set_self (by rw [rkTo_len]; exact (List.getElem?_eq_some_iff.1 hx).1)]
      go_upto_region 15 with fail
      rw [← hW2]; have hfz2 := fun o => hr2.free o
      clear hW2 hfz c0 c1 c2 hg2 hb; by_cases hj0 : j = 0
      ·subst hj0
       have HRn := Lib.hid (show RowsAt W2 74 g off 3 ((rkTo SL (0 + 1)).map ovRow) by rw [← rkTo_succ hx]; exact hr2)
       clear hr2 hxk hxk2; show Code.wp _ (Code.region 15 o93_15 true) _ _ _
       refine region_start 16 (fun w' => True) (by kernel_rfl) rfl ?_ (fun hHeld => ?_)
       ·(trivial)
       refine take_to 0 56 (bQ 16 1) (v := ?_) o93_15_0 rfl o93_15_ns (by kernel_rfl) (by kernel_rfl) (fun _ _ _ h => h) (by rfl) ?y0a (by assumption) ?_
       case y0a => intro w h; (try dsimp only at h); go_simp; try with_reducible rfl
       simp only [sE0, sE1]; refine take_to 1 57 (bQ 16 3) (v := ?_) o93_15_1 rfl o93_15_ns (by kernel_rfl) (by kernel_rfl) (fun _ _ _ h => h) (by rfl) ?y1a (by assumption) ?_
       case y1a => intro w h; (try dsimp only at h); go_simp; try with_reducible rfl
       simp only [sE0, sE1]; refine take_to 2 58 (bQ 16 7) (v := ?_) o93_15_2 rfl o93_15_ns (by kernel_rfl) (by kernel_rfl) (fun _ _ _ h => h) (by rfl) ?y2a (by assumption) ?_
       case y2a => intro w h; (try dsimp only at h); go_simp; try with_reducible rfl
       simp only [sE0, sE1]; refine skip_to 3 59 (bQ 16 15) o93_15_3 rfl o93_15_ns (by kernel_rfl) (by kernel_rfl) (fun _ _ _ h => h) (by rfl) (by assumption) ?_
       simp only [sE0, sE1]; refine skip_to 4 60 (bQ 16 31) o93_15_4 rfl o93_15_ns (by kernel_rfl) (by kernel_rfl) (fun _ _ _ h => h) (by rfl) (by assumption) ?_
       simp only [sE0, sE1]; refine skip_to 5 61 (bQ 16 63) o93_15_5 rfl o93_15_ns (by kernel_rfl) (by kernel_rfl) (fun _ _ _ h => h) (by rfl) (by assumption) ?_
       simp only [sE0, sE1]; refine skip_to 6 62 (bQ 16 127) o93_15_6 rfl o93_15_ns (by kernel_rfl) (by kernel_rfl) (fun _ _ _ h => h) (by rfl) (by assumption) ?_
       simp only [sE0, sE1]; refine skip_to 7 63 (bQ 16 255) o93_15_7 rfl o93_15_ns (by kernel_rfl) (by kernel_rfl) (fun _ _ _ h => h) (by rfl) (by assumption) ?_
       simp only [sE0, sE1]; refine skip_to 8 64 (bQ 16 511) o93_15_8 rfl o93_15_ns (by kernel_rfl) (by kernel_rfl) (fun _ _ _ h => h) (by rfl) (by assumption) ?_
       simp only [sE0, sE1]; refine skip_to 9 65 (bQ 16 1023) o93_15_9 rfl o93_15_ns (by kernel_rfl) (by kernel_rfl) (fun _ _ _ h => h) (by rfl) (by assumption) ?_
       simp only [sE0, sE1]; refine skip_to 10 66 (bQ 16 2047) o93_15_10 rfl o93_15_ns (by kernel_rfl) (by kernel_rfl) (fun _ _ _ h => h) (by rfl) (by assumption) ?_
       simp only [sE0, sE1]; refine skip_to 11 67 (bQ 16 4095) o93_15_11 rfl o93_15_ns (by kernel_rfl) (by kernel_rfl) (fun _ _ _ h => h) (by rfl) (by assumption) ?_
       simp only [sE0, sE1]; refine skip_to 12 68 (bQ 16 8191) o93_15_12 rfl o93_15_ns (by kernel_rfl) (by kernel_rfl) (fun _ _ _ h => h) (by rfl) (by assumption) ?_
       simp only [sE0, sE1]; refine skip_to 13 69 (bQ 16 16383) o93_15_13 rfl o93_15_ns (by kernel_rfl) (by kernel_rfl) (fun _ _ _ h => h) (by rfl) (by assumption) ?_
       simp only [sE0, sE1]; refine skip_to 14 70 (bQ 16 32767) o93_15_14 rfl o93_15_ns (by kernel_rfl) (by kernel_rfl) (fun _ _ _ h => h) (by rfl) (by assumption) ?_
       simp only [sE0, sE1]; refine take_to 15 71 (bQ 16 65535) (v := ?_) o93_15_15 rfl o93_15_ns (by kernel_rfl) (by kernel_rfl) (fun _ _ _ h => h) (by rfl) ?y15a (by assumption) ?_
       case y15a => intro w h; (try dsimp only at h); go_simp; try with_reducible rfl
       simp only [sE0, sE1]; refine wpAnyH_done (by kernel_rfl) ?_ _
       go_wp2_with fail
       go_roundw
       case rel => exact ⟨0 + 1, by omega, by go_num, HRn, below_drewG hb2⟩
       case measure => simp [intOf]; omega
      ·obtain ⟨j', hje⟩ : ∃ j', j = j' + 1 := ⟨j - 1, by omega⟩
       obtain ⟨y, hy⟩ : ∃ y, SL[j']? = some y := ⟨_, List.getElem?_eq_getElem (by rw [Hm.out]; omega)⟩
       have hyk2 : ((rkTo SL j).set j (⟨x.player, x.worth, 1 + (j : Int)⟩ : OvD))[j']? = some ⟨y.player, y.worth, rkG SL j'⟩ := by
        rw [List.getElem?_set_ne (by omega), rkTo_at j hy, if_pos (by omega)]
       have hrk := rkG_eq hy (hje ▸ hx); rw [← hje] at hrk
       obtain ⟨d0, d1, d2⟩ := ov_cells hr2 hyk2; obtain ⟨f0, f1, f2⟩ := ov_cells hr2 hxk2; have hjn : (0 : Int) < (j : Int) := by omega
       have hjN : 0 < j := by omega
       have hj1 : (j : Int) - 1 = (j' : Int) := by omega
       have hwj : IntKind.i64.wrap (j' : Int) = (j' : Int) := IntWalk.i64_in _ (by omega)
       have hjm : j' < m := by omega
       clear hje; have HS := Lib.hid (show ∀ w', Below W2.heap.size W2 w' → (Below W2.heap.size W2 w' ∧ w'.cell? ⟨g, off + j' * 3 + 1, none⟩ = some (.int .i64 y.worth) ∧ w'.cell? ⟨g, off + j * 3 + 1, none⟩ = some (.int .i64 x.worth)) from fun w' hb => ⟨hb, below_cell hb d1, below_cell hb f1⟩)
       have hbd := (Below.refl W2.heap.size W2).drew; by_cases he : y.worth = x.worth
       ·have e1 : (y.worth == x.worth) = true := by rw [he]; exact beq_self_eq_true _
        rw [if_pos he] at hrk
        show Code.wp _ (Code.region 15 o93_15 true) _ _ _
        refine region_start 16 (fun w' => Below W2.heap.size W2 w' ∧ w'.cell? ⟨g, off + j' * 3 + 1, none⟩ = some (.int .i64 y.worth) ∧ w'.cell? ⟨g, off + j * 3 + 1, none⟩ = some (.int .i64 x.worth)) (by kernel_rfl) rfl ?_ (fun hHeld => ?_)
        ·(exact HS.out _ hbd)
        refine take_to 0 56 (bQ 16 1) (v := ?_) o93_15_0 rfl o93_15_ns (by kernel_rfl) (by kernel_rfl) (fun _ _ _ h => h) (by rfl) ?y0b (by assumption) ?_
        case y0b => intro w h; (try dsimp only at h); go_simp; try with_reducible rfl
        simp only [sE0, sE1]; refine take_to 1 57 (bQ 16 3) (v := .bool true) o93_15_1 rfl o93_15_ns (by kernel_rfl) (by kernel_rfl) (fun _ _ _ h => h) (by rfl) ?y1b (by assumption) ?_
        case y1b =>
         intro w hSw; try dsimp only at hSw
         go_simp; try exact hjN
         try with_reducible rfl
        simp only [sE0, sE1]; refine take_to 2 58 (bQ 16 7) (v := ?_) o93_15_2 rfl o93_15_ns (by kernel_rfl) (by kernel_rfl) (fun _ _ _ h => h) (by rfl) ?y2b (by assumption) ?_
        case y2b => intro w h; (try dsimp only at h); go_simp; try with_reducible rfl
        simp only [sE0, sE1]; refine take_to 3 59 (bQ 16 15) (v := ?_) o93_15_3 rfl o93_15_ns (by kernel_rfl) (by kernel_rfl) (fun _ _ _ h => h) (by rfl) ?y3b (by assumption) ?_
        case y3b => intro w h; (try dsimp only at h); go_simp; try with_reducible rfl
        simp only [sE0, sE1]; refine take_to 4 60 (bQ 16 31) (v := ?_) o93_15_4 rfl o93_15_ns (by kernel_rfl) (by kernel_rfl) (fun _ _ _ h => h) (by rfl) ?y4b (by assumption) ?_
        case y4b => intro w h; (try dsimp only at h); go_simp; try with_reducible rfl
        simp only [sE0, sE1]; refine take_to 5 61 (bQ 16 63) (v := .int .i64 (j' : Int)) o93_15_5 rfl o93_15_ns (by kernel_rfl) (by kernel_rfl) (fun _ _ _ h => h) (by rfl) ?y5b (by assumption) ?_
        case y5b =>
         intro w hSw; try dsimp only at hSw
         go_simp; try rw [hj1]
         try rw [hwj]
         try with_reducible rfl
        simp only [sE0, sE1]; refine take_to 6 62 (bQ 16 127) (v := ?_) o93_15_6 rfl o93_15_ns (by kernel_rfl) (by kernel_rfl) (fun _ _ _ h => h) (by rfl) ?y6b (by assumption) ?_
        case y6b => intro w h; (try dsimp only at h); go_simp; try with_reducible rfl
        simp only [sE0, sE1]; refine take_to 7 63 (bQ 16 255) (v := ?_) o93_15_7 rfl o93_15_ns (by kernel_rfl) (by kernel_rfl) (fun _ _ _ h => h) (by rfl) ?y7b (by assumption) ?_
        case y7b => intro w h; (try dsimp only at h); go_simp; try with_reducible rfl
        simp only [sE0, sE1]; refine take_to 8 64 (bQ 16 511) (v := ?_) o93_15_8 rfl o93_15_ns (by kernel_rfl) (by kernel_rfl) (fun _ _ _ h => h) (by rfl) ?y8b (by assumption) ?_
        case y8b => intro w h; (try dsimp only at h); go_simp; try with_reducible rfl
        simp only [sE0, sE1]; refine take_to 9 65 (bQ 16 1023) (v := ?_) o93_15_9 rfl o93_15_ns (by kernel_rfl) (by kernel_rfl) (fun _ _ _ h => h) (by rfl) ?y9b (by assumption) ?_
        case y9b => intro w h; (try dsimp only at h); go_simp; try with_reducible rfl
        simp only [sE0, sE1]; refine take_to 10 66 (bQ 16 2047) (v := ?_) o93_15_10 rfl o93_15_ns (by kernel_rfl) (by kernel_rfl) (fun _ _ _ h => h) (by rfl) ?y10b (by assumption) ?_
        case y10b => intro w h; (try dsimp only at h); go_simp; try with_reducible rfl
        simp only [sE0, sE1]; refine take_to 11 67 (bQ 16 4095) (v := ?_) o93_15_11 rfl o93_15_ns (by kernel_rfl) (by kernel_rfl) (fun _ _ _ h => h) (by rfl) ?y11b (by assumption) ?_
        case y11b => intro w h; (try dsimp only at h); go_simp; try with_reducible rfl
        simp only [sE0, sE1]; refine take_to 12 68 (bQ 16 8191) (v := ?_) o93_15_12 rfl o93_15_ns (by kernel_rfl) (by kernel_rfl) (fun _ _ _ h => h) (by rfl) ?y12b (by assumption) ?_
        case y12b => intro w h; (try dsimp only at h); go_simp; try with_reducible rfl
        simp only [sE0, sE1]; refine take_to 13 69 (bQ 16 16383) (v := ?_) o93_15_13 rfl o93_15_ns (by kernel_rfl) (by kernel_rfl) (fun _ _ _ h => h) (by rfl) ?y13b (by assumption) ?_
        case y13b => intro w h; (try dsimp only at h); go_simp; try with_reducible rfl
        simp only [sE0, sE1]; refine take_to 14 70 (bQ 16 32767) (v := ?_) o93_15_14 rfl o93_15_ns (by kernel_rfl) (by kernel_rfl) (fun _ _ _ h => h) (by rfl) ?y14b (by assumption) ?_
        case y14b => intro w h; (try dsimp only at h); go_simp; try with_reducible rfl
        simp only [sE0, sE1]; refine take_to 15 71 (bQ 16 65535) (v := ?_) o93_15_15 rfl o93_15_ns (by kernel_rfl) (by kernel_rfl) (fun _ _ _ h => h) (by rfl) ?y15b (by assumption) ?_
        case y15b => intro w h; (try dsimp only at h); go_simp; try with_reducible rfl
        simp only [sE0, sE1]; refine wpAnyH_done (by kernel_rfl) ?_ _
        have hr3 : RowsAt W2.drew 74 g off 3 (((rkTo SL j).set j (⟨x.player, x.worth, 1 + (j : Int)⟩ : OvD)).map ovRow) := hr2
        have hb3 := below_drewG hb2; have g2 : W2.drew.cell? ⟨g, off + j' * 3 + 2, none⟩ = some (.int .i64 (rkG SL j')) := d2
        have gf2 : W2.drew.cell? ⟨g, off + j * 3 + 2, none⟩ = some (.int .i64 (1 + (j : Int))) := f2
        clear HS hbd hHeld hr2 hb2 d0 d1 d2 f0 f1 f2 hyk2 hfz2; generalize W2.drew = W3 at hr3 hb3 g2 gf2 ⊢
        have hfz3 := fun o => hr3.free o
        have hr4 := ov_rank hr3 hxk2 (rkG SL j'); have hg4 := gb_setCell W3 g (off + j * 3 + 2) (.int .i64 (rkG SL j')); have hb4 := below_gbG hb3 hg4 hl; rw [List.set_set, ← hrk, rkTo_succ hx] at hr4
        have HRn := Lib.hid hr4; try rw [hrk] at HRn
        clear hr4 hg4 hr3 hb3 hxk hxk2 hrk; go_wp2_with fail
        go_roundw
        case rel => exact ⟨j + 1, by omega, by go_num, HRn, hb4⟩
        case measure => simp [intOf]; omega
       ·have e1 : (y.worth == x.worth) = false := by rw [beq_eq_false_iff_ne]; exact he
        rw [if_neg he] at hrk
        show Code.wp _ (Code.region 15 o93_15 true) _ _ _
        refine region_start 16 (fun w' => Below W2.heap.size W2 w' ∧ w'.cell? ⟨g, off + j' * 3 + 1, none⟩ = some (.int .i64 y.worth) ∧ w'.cell? ⟨g, off + j * 3 + 1, none⟩ = some (.int .i64 x.worth)) (by kernel_rfl) rfl ?_ (fun hHeld => ?_)
        ·(exact HS.out _ hbd)
        refine take_to 0 56 (bQ 16 1) (v := ?_) o93_15_0 rfl o93_15_ns (by kernel_rfl) (by kernel_rfl) (fun _ _ _ h => h) (by rfl) ?y0c (by assumption) ?_
        case y0c => intro w h; (try dsimp only at h); go_simp; try with_reducible rfl
        simp only [sE0, sE1]; refine take_to 1 57 (bQ 16 3) (v := .bool true) o93_15_1 rfl o93_15_ns (by kernel_rfl) (by kernel_rfl) (fun _ _ _ h => h) (by rfl) ?y1c (by assumption) ?_
        case y1c =>
         intro w hSw; try dsimp only at hSw
         go_simp; try exact hjN
         try with_reducible rfl
        simp only [sE0, sE1]; refine take_to 2 58 (bQ 16 7) (v := ?_) o93_15_2 rfl o93_15_ns (by kernel_rfl) (by kernel_rfl) (fun _ _ _ h => h) (by rfl) ?y2c (by assumption) ?_
        case y2c => intro w h; (try dsimp only at h); go_simp; try with_reducible rfl
        simp only [sE0, sE1]; refine take_to 3 59 (bQ 16 15) (v := ?_) o93_15_3 rfl o93_15_ns (by kernel_rfl) (by kernel_rfl) (fun _ _ _ h => h) (by rfl) ?y3c (by assumption) ?_
        case y3c => intro w h; (try dsimp only at h); go_simp; try with_reducible rfl
        simp only [sE0, sE1]; refine take_to 4 60 (bQ 16 31) (v := ?_) o93_15_4 rfl o93_15_ns (by kernel_rfl) (by kernel_rfl) (fun _ _ _ h => h) (by rfl) ?y4c (by assumption) ?_
        case y4c => intro w h; (try dsimp only at h); go_simp; try with_reducible rfl
        simp only [sE0, sE1]; refine take_to 5 61 (bQ 16 63) (v := .int .i64 (j' : Int)) o93_15_5 rfl o93_15_ns (by kernel_rfl) (by kernel_rfl) (fun _ _ _ h => h) (by rfl) ?y5c (by assumption) ?_
        case y5c =>
         intro w hSw; try dsimp only at hSw
         go_simp; try rw [hj1]
         try rw [hwj]
         try with_reducible rfl
        simp only [sE0, sE1]; refine take_to 6 62 (bQ 16 127) (v := ?_) o93_15_6 rfl o93_15_ns (by kernel_rfl) (by kernel_rfl) (fun _ _ _ h => h) (by rfl) ?y6c (by assumption) ?_
        case y6c => intro w h; (try dsimp only at h); go_simp; try with_reducible rfl
        simp only [sE0, sE1]; refine take_to 7 63 (bQ 16 255) (v := ?_) o93_15_7 rfl o93_15_ns (by kernel_rfl) (by kernel_rfl) (fun _ _ _ h => h) (by rfl) ?y7c (by assumption) ?_
        case y7c => intro w h; (try dsimp only at h); go_simp; try with_reducible rfl
        simp only [sE0, sE1]; refine take_to 8 64 (bQ 16 511) (v := ?_) o93_15_8 rfl o93_15_ns (by kernel_rfl) (by kernel_rfl) (fun _ _ _ h => h) (by rfl) ?y8c (by assumption) ?_
        case y8c => intro w h; (try dsimp only at h); go_simp; try with_reducible rfl
        simp only [sE0, sE1]; refine take_to 9 65 (bQ 16 1023) (v := ?_) o93_15_9 rfl o93_15_ns (by kernel_rfl) (by kernel_rfl) (fun _ _ _ h => h) (by rfl) ?y9c (by assumption) ?_
        case y9c => intro w h; (try dsimp only at h); go_simp; try with_reducible rfl
        simp only [sE0, sE1]; refine take_to 10 66 (bQ 16 2047) (v := ?_) o93_15_10 rfl o93_15_ns (by kernel_rfl) (by kernel_rfl) (fun _ _ _ h => h) (by rfl) ?y10c (by assumption) ?_
        case y10c => intro w h; (try dsimp only at h); go_simp; try with_reducible rfl
        simp only [sE0, sE1]; refine take_to 11 67 (bQ 16 4095) (v := ?_) o93_15_11 rfl o93_15_ns (by kernel_rfl) (by kernel_rfl) (fun _ _ _ h => h) (by rfl) ?y11c (by assumption) ?_
        case y11c => intro w h; (try dsimp only at h); go_simp; try with_reducible rfl
        simp only [sE0, sE1]; refine take_to 12 68 (bQ 16 8191) (v := ?_) o93_15_12 rfl o93_15_ns (by kernel_rfl) (by kernel_rfl) (fun _ _ _ h => h) (by rfl) ?y12c (by assumption) ?_
        case y12c => intro w h; (try dsimp only at h); go_simp; try with_reducible rfl
        simp only [sE0, sE1]; refine take_to 13 69 (bQ 16 16383) (v := ?_) o93_15_13 rfl o93_15_ns (by kernel_rfl) (by kernel_rfl) (fun _ _ _ h => h) (by rfl) ?y13c (by assumption) ?_
        case y13c => intro w h; (try dsimp only at h); go_simp; try with_reducible rfl
        simp only [sE0, sE1]; refine take_to 14 70 (bQ 16 32767) (v := ?_) o93_15_14 rfl o93_15_ns (by kernel_rfl) (by kernel_rfl) (fun _ _ _ h => h) (by rfl) ?y14c (by assumption) ?_
        case y14c => intro w h; (try dsimp only at h); go_simp; try with_reducible rfl
        simp only [sE0, sE1]; refine take_to 15 71 (bQ 16 65535) (v := ?_) o93_15_15 rfl o93_15_ns (by kernel_rfl) (by kernel_rfl) (fun _ _ _ h => h) (by rfl) ?y15c (by assumption) ?_
        case y15c => intro w h; (try dsimp only at h); go_simp; try with_reducible rfl
        simp only [sE0, sE1]; refine wpAnyH_done (by kernel_rfl) ?_ _
        have HRn := Lib.hid (show RowsAt W2 74 g off 3 ((rkTo SL (j + 1)).map ovRow) by rw [← rkTo_succ hx, hrk, show ((j' : Int) + 2) = 1 + (j : Int) by omega]; exact hr2)
        clear hr2 hxk hxk2 hyk2 d0 d1 d2 f0 f1 f2 HS hbd hHeld hrk; go_wp2_with fail
        go_roundw
        case rel => exact ⟨j + 1, by omega, by go_num, HRn, below_drewG hb2⟩
        case measure => simp [intOf]; omega
     ·obtain rfl : j = m := by omega
      have HR2 := HR; clear HR; go_wp2_with fail
      go_ret
      exact ⟨_, .inr ⟨g, off, cc, by rw [← HRES.out, rkTo_len, Hm.out]; rfl, by rw [← HRES.out]; exact HR2.out, by rw [← HRES.out, rkTo_len, Hm.out]; exact hcc, Nat.le_trans hb1.size hl⟩, rfl, below_step hb1 hb⟩
end Go.Proofs.YtddnnjblpgfjeaaGreatDoor
/- What is wrong with a league; a place's level. -/
namespace Go.Proofs.YtddnnjblpgfjeaaGreatDoor
open Go.RowKit

def leagueE (xs : List AsD) (ps : List PlD) (t : Int) : Int := firstE [teamE xs ps, unlessE (betwB t 1 20) 1]
theorem wrongLeague_calls (lo lo' : Nat) (v u : Value) (xs : List AsD) (ps : List PlD) (t : Int) (w : World) (hR : Ass w lo v xs) (hs : ∀ c ∈ xs, SmallA c) (hn : xs.length ≤ 1000000) (hP : Pls w lo' u ps) (hp : ∀ c ∈ ps, SmallP c) (hm : ps.length ≤ 1000000) :
  Calls Tryz.prog 91 #[v, u, .int .i64 t] w (IntBelow (leagueE xs ps t) w) := by
 have C1 := Lib.hid (wrongTeam_calls lo lo' v u xs ps w hR hs hn hP hp hm)
 have HE := Lib.hid (show leagueE xs ps t = firstE [teamE xs ps, unlessE (betwB t 1 20) 1] from rfl)
 obtain ⟨a, c, rfl⟩ := as_shape hR
 obtain ⟨a', c', rfl⟩ := pl_shape hP
 generalize leagueE xs ps t = E at HE ⊢
 generalize teamE xs ps = T0 at C1 HE
 clear hR hP hs hp
 go_enter Tryz.func91, Tryz.ntmps91
 go_wp2_with fail
 refine C1.out.mono ?_
 rintro e w1 ⟨rfl, hb1⟩
 go_wp2_with fail
 refine (between_calls _ _ _ _).mono ?_
 rintro e w2 ⟨rfl, rfl⟩
 go_wp2_with fail
 refine (unless_calls _ _ _).mono ?_
 rintro e w2 ⟨rfl, rfl⟩
 go_wp2_with fail
 refine (orE_calls _ 0 2 [T0, unlessE (betwB t 1 20) 1] _ (by simp) (by exact nums2 _ _ _ _)).mono ?_
 rintro e w3 ⟨rfl, rfl⟩
 rw [← HE.out]
 go_wp2_with fail
 go_ret
 exact ⟨rfl, below_step hb1 (below_alloc _ _)⟩
theorem span_calls (n low high : Int) (w : World) :
  Calls Tryz.prog 34 #[.int .i64 n, .int .i64 low, .int .i64 high] w fun e w' => e = .returned (.int .i64 (unlessE (betwB n low high) 1)) ∧ w = w' := by
 have C := Lib.hid (inQ_calls n low high w)
 cases hq : betwB n low high
 ·rw [hq] at C
  go_enter Tryz.func34, Tryz.ntmps34; go_wp2_with fail
  refine C.out.mono ?_; rintro e w2 ⟨rfl, rfl⟩; go_wp2_with fail
  go_ret
  exact ⟨rfl, rfl⟩
 ·rw [hq] at C
  go_enter Tryz.func34, Tryz.ntmps34; go_wp2_with fail
  refine C.out.mono ?_; rintro e w2 ⟨rfl, rfl⟩; go_wp2_with fail
  go_ret
  exact ⟨rfl, rfl⟩
def levelR (xs : List AsD) (y : PlD) (t : Int) : Int := lvAt ((ofR xs y.pos).map AsD.value) y.many t
set_option maxRecDepth 100000 in
set_option maxHeartbeats 2000000 in
theorem level_calls (lo : Nat) (v : Value) (xs : List AsD) (y : PlD) (t : Int) (w : World) (hv : Ass w lo v xs) (hr : RiseA xs) (hn : xs.length ≤ 12) (hy0 : 0 ≤ y.many) (hy1 : y.many ≤ 12) (ht1 : 1 ≤ t) (ht2 : t ≤ 20) :
  Calls Tryz.prog 100 #[v, .agg #[.string y.pos, .int .i64 y.many], .int .i64 t] w (IntBelow (levelR xs y t) w) := by
 have hmul0 : 0 ≤ y.many * t := Int.mul_nonneg hy0 (by omega)
 have hmul1 : y.many * t ≤ 240 := by have h1 := Int.mul_le_mul hy1 ht2 (by omega) (by omega); omega
 obtain ⟨W, hW⟩ : ∃ W, W = w.alloc (.cells #[.string y.pos, .int .i64 y.many] 125) := ⟨_, rfl⟩
 have hbW : Below w.heap.size w W := by rw [hW]; exact below_alloc w _
 have hx : W.heap[w.heap.size]? = some (.cells #[.string y.pos, .int .i64 y.many] 125 (0, 0)) := by rw [hW]; exact heap_alloc_new w _
 have x0 := cell_at hx 0 rfl
 have D := Lib.hid (ofA_calls lo v xs y.pos W (hv.below hbW) hr hn)
 have HE := Lib.hid (show levelR xs y t = lvAt ((ofR xs y.pos).map AsD.value) y.many t from rfl)
 have hRl := Nat.le_trans (ofR_len xs y.pos) hn
 generalize levelR xs y t = E at HE ⊢
 generalize ofR xs y.pos = R at D HE hRl
 obtain ⟨a, c, rfl⟩ := as_shape hv
 generalize xs.length = n at *
 have HX := Lib.hid hx
 clear hv hr hx
 go_enter Tryz.func100, Tryz.ntmps100
 go_upto_region 1 with fail
 rw [← hW]
 clear hW
 go_wp2_with fail
 refine D.out.mono ?_
 rintro e w1 ⟨v1, hfr, rfl, hb1⟩
 have hb01 := below_step hbW hb1
 have hA := hfr.ass (by omega)
 have hx1 := cells_later HX.out hb1
 have x1 := cell_at hx1 1 rfl
 rcases as_at hA with ⟨rfl, rfl⟩ | ⟨g, off, cap, rfl, _, _, _, hcell⟩
 ·have HR := Lib.hid (show E = 0 by rw [HE.out]; simp [lvAt])
  clear D HX HE hA hfr hbW hb1 hx1 x0; go_wp2_with fail
  go_ret
  exact ⟨ret_int HR.out.symm, hb01⟩
 ·obtain ⟨m, hm⟩ : ∃ m, R.length = m := ⟨_, rfl⟩
  have Hm := Lib.hid hm; rw [hm] at hRl ⊢
  by_cases h0 : m = 0
  ·subst h0
   have HR := Lib.hid (show E = 0 by rw [HE.out, List.eq_nil_of_length_eq_zero Hm.out]; simp [lvAt])
   clear D HX HE hA hfr hbW hb1 hx1 x0 hcell hm; go_wp2_with fail
   go_ret
   exact ⟨ret_int HR.out.symm, hb01⟩
  ·obtain ⟨ix, hix⟩ : ∃ ix : Nat, min (y.many * t) ((m : Int) - 1) = (ix : Int) := ⟨_, (Int.toNat_of_nonneg (by omega)).symm⟩
   have hixl : ix < m := by omega
   obtain ⟨z, hz⟩ : ∃ z, R[ix]? = some z := ⟨_, List.getElem?_eq_getElem (by rw [Hm.out]; exact hixl)⟩
   obtain ⟨c0, c1, c2⟩ := hcell ix z hz; have hw1 : IntKind.i64.wrap (y.many * t) = y.many * t := IntWalk.i64_in _ (by omega)
   have hw2 : IntKind.i64.wrap ((m : Int) - 1) = (m : Int) - 1 := IntWalk.i64_in _ (by omega)
   have e0 : ((m : Int) == 0) = false := by rw [beq_eq_false_iff_ne]; omega
   have HR := Lib.hid (show E = z.value by
    rw [HE.out]; unfold lvAt
    rw [List.length_map, Hm.out, hix]; simp [hz])
   clear D HX HE hA hfr hbW hb1 hx1 x0 hcell hm hz h0; go_wp2_with fail
   go_ret
   exact ⟨ret_int HR.out.symm, hb01⟩
end Go.Proofs.YtddnnjblpgfjeaaGreatDoor
/- Levels: both ways. -/
namespace Go.Proofs.YtddnnjblpgfjeaaGreatDoor
open Go.RowKit

def pairF (f : PlD → Int) (ps : List PlD) : List PaD := ps.map fun y => ⟨y.pos, itoaS (f y)⟩
theorem pairF_snoc {f : PlD → Int} {ps : List PlD} {k : Nat} {y : PlD} (h : ps[k]? = some y) : pairF f (ps.take (k + 1)) = pairF f (ps.take k) ++ [⟨y.pos, itoaS (f y)⟩] := by
 rw [take_snocG h]; unfold pairF; simp
theorem pairF_len (f : PlD → Int) (ps : List PlD) (k : Nat) (h : ps.length ≤ 10) : (pairF f (ps.take k)).length ≤ 10 := by unfold pairF; rw [List.length_map, List.length_take]; omega
def MadePa (xs : List PaD) (w : World) (e : Ending) (w' : World) : Prop := ∃ v, OwnPa w' w.heap.size v xs ∧ e = .returned v ∧ Below w.heap.size w w'
def NilTwo (f : Int) (w : World) (e : Ending) (w' : World) : Prop := e = .returned (.tuple #[.slice none 0 0, .int .i64 f]) ∧ Below w.heap.size w w'
def PaTwo (xs : List PaD) (w : World) (e : Ending) (w' : World) : Prop := ∃ v, OwnPa w' w.heap.size v xs ∧ e = .returned (.tuple #[v, .int .i64 0]) ∧ Below w.heap.size w w'
theorem levels_wrong (lo lo' : Nat) (v u : Value) (xs : List AsD) (ps : List PlD) (t : Int) (w : World) (hR : Ass w lo v xs) (hs : ∀ c ∈ xs, SmallA c) (hn : xs.length ≤ 1000000) (hP : Pls w lo' u ps) (hp : ∀ c ∈ ps, SmallP c) (hm : ps.length ≤ 1000000) (he : leagueE xs ps t ≠ 0) :
  Calls Tryz.prog 30 #[v, u, .int .i64 t] w (NilTwo (leagueE xs ps t) w) := by
 have D := Lib.hid (wrongLeague_calls lo lo' v u xs ps t w hR hs hn hP hp hm)
 obtain ⟨a, c, rfl⟩ := as_shape hR
 obtain ⟨pa, pc, rfl⟩ := pl_shape hP
 generalize leagueE xs ps t = E at D he ⊢
 generalize xs.length = n at D ⊢
 generalize ps.length = m at D ⊢
 have e1 : (E != 0) = true := by simp [he]
 clear hR hs hn hP hp hm he
 go_enter Tryz.func30, Tryz.ntmps30
 go_wp2_with fail
 refine D.out.mono ?_
 rintro e w1 ⟨rfl, hb1⟩
 clear D
 go_wp2_with fail
 go_ret2
 exact ⟨rfl, hb1⟩
theorem worths_wrong (lo lo' : Nat) (v u : Value) (xs : List AsD) (ps : List PlD) (t : Int) (w : World) (hR : Ass w lo v xs) (hs : ∀ c ∈ xs, SmallA c) (hn : xs.length ≤ 1000000) (hP : Pls w lo' u ps) (hp : ∀ c ∈ ps, SmallP c) (hm : ps.length ≤ 1000000) (he : leagueE xs ps t ≠ 0) :
  Calls Tryz.prog 31 #[v, u, .int .i64 t] w (NilTwo (leagueE xs ps t) w) := by
 have D := Lib.hid (wrongLeague_calls lo lo' v u xs ps t w hR hs hn hP hp hm)
 obtain ⟨a, c, rfl⟩ := as_shape hR
 obtain ⟨pa, pc, rfl⟩ := pl_shape hP
 generalize leagueE xs ps t = E at D he ⊢
 generalize xs.length = n at D ⊢
 generalize ps.length = m at D ⊢
 have e1 : (E != 0) = true := by simp [he]
 clear hR hs hn hP hp hm he
 go_enter Tryz.func31, Tryz.ntmps31
 go_wp2_with fail
 refine D.out.mono ?_
 rintro e w1 ⟨rfl, hb1⟩
 clear D
 go_wp2_with fail
 go_ret2
 exact ⟨rfl, hb1⟩
def OvTwo (xs : List OvD) (w : World) (e : Ending) (w' : World) : Prop := ∃ v, FreshOv w.heap.size xs w' v ∧ e = .returned (.tuple #[v, .int .i64 0]) ∧ Below w.heap.size w w'
theorem FreshOv.mono {lo lo' : Nat} {xs : List OvD} {w : World} {v : Value} (h : FreshOv lo xs w v) (hl : lo' ≤ lo) : FreshOv lo' xs w v := by
 rcases h with h | ⟨g, off, c, e, hr, hc, h2⟩
 ·exact .inl h
 ·exact .inr ⟨g, off, c, e, hr, hc, Nat.le_trans hl h2⟩
theorem worths_right (lo lo' : Nat) (v u : Value) (xs : List AsD) (ps : List PlD) (t : Int) (w : World) (hv : Ass w lo v xs) (hP : Pls w lo' u ps) (hn : xs.length ≤ 12) (hs : ∀ x ∈ xs, SmallA x) (hf : ∀ x ∈ xs, FitA x) (hp : ∀ y ∈ ps, SmallP y) (hp2 : ∀ y ∈ ps, 0 ≤ y.many ∧ y.many ≤ 12) (hm : ps.length ≤ 10) (ht1 : 1 ≤ t) (ht2 : t ≤ 20)
  (hL : ∀ k l, lvK (vOf (rank xs)) t ps ps.length k = some l → -1000000 ≤ l ∧ l ≤ 1000000) (he : leagueE xs ps t = 0) (OUT : List OvD) (hO : rkTo (insL cmpO (overP (lvK (vOf (rank xs)) t ps ps.length) xs)) (insL cmpO (overP (lvK (vOf (rank xs)) t ps ps.length) xs)).length = OUT) :
  Calls Tryz.prog 31 #[v, u, .int .i64 t] w (OvTwo OUT w) := by
 have D := Lib.hid (wrongLeague_calls lo lo' v u xs ps t w hv hs (by omega) hP hp (by omega))
 rw [he] at D
 have D2 := Lib.hid (fun W (hb : Below w.heap.size w W) => worthsOf_calls lo lo' v u xs ps t W (hv.below hb) (hP.below hb) hn hs hf hp hp2 hm ht1 ht2 hL)
 rw [hO] at D2
 obtain ⟨a, c, rfl⟩ := as_shape hv
 obtain ⟨pa, pc, rfl⟩ := pl_shape hP
 generalize xs.length = n at *
 generalize ps.length = m at *
 clear hv hs hn hP hp hm he hf hp2 ht1 ht2 hL hO
 go_enter Tryz.func31, Tryz.ntmps31
 go_wp2_with fail
 refine D.out.mono ?_
 rintro e w1 ⟨rfl, hb1⟩
 have E2 := Lib.hid (D2.out w1 hb1)
 clear D D2
 go_wp2_with fail
 refine E2.out.mono ?_
 rintro e w2 ⟨v2, hfr, rfl, hb2⟩
 clear E2
 go_wp2_with fail
 go_ret2
 exact ⟨_, hfr.mono hb1.size, rfl, below_step hb1 hb2⟩
def o30_9 : Array Go.Oper := #[
 ⟨some 30, .move (.tmp 10), 59, "worth.go:20", #[], none⟩,
 ⟨some 31, .fieldAddr 125 (.tmp 12) 0, 0, "worth.go:20", #[], none⟩,
 ⟨some 32, .load 9 (.tmp 31), 9, "worth.go:20", #[⟨1, .data⟩], none⟩,
 ⟨some 33, .move (.tmp 9), 129, "worth.go:20", #[], none⟩,
 ⟨some 34, .fieldAddr 125 (.tmp 12) 0, 0, "worth.go:20", #[], none⟩,
 ⟨some 35, .load 9 (.tmp 34), 9, "worth.go:20", #[⟨4, .data⟩], none⟩,
 ⟨some 36, .lookup 129 (.tmp 33) (.tmp 35) false, 3, "worth.go:20", #[⟨3, .data⟩, ⟨5, .data⟩], none⟩,
 ⟨some 37, .call { callee := .value (.func 50), args := #[.tmp 36], argTypes := #[3] }, 9, "worth.go:20", #[⟨6, .data⟩], none⟩,
 ⟨some 38, .build 70 #[(0, .tmp 32), (1, .tmp 37)], 70, "worth.go:20", #[⟨2, .data⟩, ⟨7, .data⟩], none⟩,
 ⟨some 39, .buildSlice 59 1 #[(0, .tmp 38)], 59, "worth.go:20", #[⟨8, .data⟩], none⟩,
 ⟨some 40, .call { callee := .builtin .append, args := #[.tmp 30, .tmp 39], argTypes := #[59, 59] }, 59, "worth.go:20", #[⟨0, .data⟩, ⟨9, .data⟩, ⟨7, .chain⟩], none⟩,
 ⟨some 10, .assign (.tmp 40), 59, "worth.go:20", #[⟨10, .data⟩, ⟨10, .chain⟩, ⟨0, .phase⟩, ⟨1, .phase⟩, ⟨2, .phase⟩, ⟨3, .phase⟩, ⟨4, .phase⟩, ⟨5, .phase⟩, ⟨6, .phase⟩, ⟨7, .phase⟩, ⟨8, .phase⟩, ⟨9, .phase⟩, ⟨10, .phase⟩], none⟩]
theorem o30_9_0 : o30_9[0]? = some (⟨some 30, .move (.tmp 10), 59, "worth.go:20", #[], none⟩ : Go.Oper) := rfl
theorem o30_9_1 : o30_9[1]? = some (⟨some 31, .fieldAddr 125 (.tmp 12) 0, 0, "worth.go:20", #[], none⟩ : Go.Oper) := rfl
theorem o30_9_2 : o30_9[2]? = some (⟨some 32, .load 9 (.tmp 31), 9, "worth.go:20", #[⟨1, .data⟩], none⟩ : Go.Oper) := rfl
theorem o30_9_3 : o30_9[3]? = some (⟨some 33, .move (.tmp 9), 129, "worth.go:20", #[], none⟩ : Go.Oper) := rfl
theorem o30_9_4 : o30_9[4]? = some (⟨some 34, .fieldAddr 125 (.tmp 12) 0, 0, "worth.go:20", #[], none⟩ : Go.Oper) := rfl
theorem o30_9_5 : o30_9[5]? = some (⟨some 35, .load 9 (.tmp 34), 9, "worth.go:20", #[⟨4, .data⟩], none⟩ : Go.Oper) := rfl
theorem o30_9_6 : o30_9[6]? = some (⟨some 36, .lookup 129 (.tmp 33) (.tmp 35) false, 3, "worth.go:20", #[⟨3, .data⟩, ⟨5, .data⟩], none⟩ : Go.Oper) := rfl
theorem o30_9_7 : o30_9[7]? = some (⟨some 37, .call { callee := .value (.func 50), args := #[.tmp 36], argTypes := #[3] }, 9, "worth.go:20", #[⟨6, .data⟩], none⟩ : Go.Oper) := rfl
theorem o30_9_8 : o30_9[8]? = some (⟨some 38, .build 70 #[(0, .tmp 32), (1, .tmp 37)], 70, "worth.go:20", #[⟨2, .data⟩, ⟨7, .data⟩], none⟩ : Go.Oper) := rfl
theorem o30_9_9 : o30_9[9]? = some (⟨some 39, .buildSlice 59 1 #[(0, .tmp 38)], 59, "worth.go:20", #[⟨8, .data⟩], none⟩ : Go.Oper) := rfl
theorem o30_9_10 : o30_9[10]? = some (⟨some 40, .call { callee := .builtin .append, args := #[.tmp 30, .tmp 39], argTypes := #[59, 59] }, 59, "worth.go:20", #[⟨0, .data⟩, ⟨9, .data⟩, ⟨7, .chain⟩], none⟩ : Go.Oper) := rfl
theorem o30_9_11 : o30_9[11]? = some (⟨some 10, .assign (.tmp 40), 59, "worth.go:20", #[⟨10, .data⟩, ⟨10, .chain⟩, ⟨0, .phase⟩, ⟨1, .phase⟩, ⟨2, .phase⟩, ⟨3, .phase⟩, ⟨4, .phase⟩, ⟨5, .phase⟩, ⟨6, .phase⟩, ⟨7, .phase⟩, ⟨8, .phase⟩, ⟨9, .phase⟩, ⟨10, .phase⟩], none⟩ : Go.Oper) := rfl
theorem o30_9_ns : Go.Region.noSelect o30_9 = true := by kernel_rfl
def o38_5 : Array Go.Oper := #[
 ⟨some 16, .move (.tmp 7), 59, "values.go:69", #[], none⟩,
 ⟨some 17, .fieldAddr 125 (.tmp 9) 0, 0, "values.go:69", #[], none⟩,
 ⟨some 18, .load 9 (.tmp 17), 9, "values.go:69", #[⟨1, .data⟩], none⟩,
 ⟨some 19, .move (.tmp 0), 52, "values.go:69", #[], none⟩,
 ⟨some 20, .load 125 (.tmp 9), 125, "values.go:69", #[], none⟩,
 ⟨some 21, .move (.tmp 2), 3, "values.go:69", #[], none⟩,
 ⟨some 22, .call { callee := .value (.func 100), args := #[.tmp 19, .tmp 20, .tmp 21], argTypes := #[52, 125, 3] }, 3, "values.go:69", #[⟨3, .data⟩, ⟨4, .data⟩, ⟨5, .data⟩], none⟩,
 ⟨some 23, .call { callee := .value (.func 50), args := #[.tmp 22], argTypes := #[3] }, 9, "values.go:69", #[⟨6, .data⟩, ⟨6, .chain⟩], none⟩,
 ⟨some 24, .build 70 #[(0, .tmp 18), (1, .tmp 23)], 70, "values.go:69", #[⟨2, .data⟩, ⟨7, .data⟩], none⟩,
 ⟨some 25, .buildSlice 59 1 #[(0, .tmp 24)], 59, "values.go:69", #[⟨8, .data⟩], none⟩,
 ⟨some 26, .call { callee := .builtin .append, args := #[.tmp 16, .tmp 25], argTypes := #[59, 59] }, 59, "values.go:69", #[⟨0, .data⟩, ⟨9, .data⟩, ⟨7, .chain⟩], none⟩,
 ⟨some 7, .assign (.tmp 26), 59, "values.go:69", #[⟨10, .data⟩, ⟨10, .chain⟩, ⟨0, .phase⟩, ⟨1, .phase⟩, ⟨2, .phase⟩, ⟨3, .phase⟩, ⟨4, .phase⟩, ⟨5, .phase⟩, ⟨6, .phase⟩, ⟨7, .phase⟩, ⟨8, .phase⟩, ⟨9, .phase⟩, ⟨10, .phase⟩], none⟩]
theorem o38_5_0 : o38_5[0]? = some (⟨some 16, .move (.tmp 7), 59, "values.go:69", #[], none⟩ : Go.Oper) := rfl
theorem o38_5_1 : o38_5[1]? = some (⟨some 17, .fieldAddr 125 (.tmp 9) 0, 0, "values.go:69", #[], none⟩ : Go.Oper) := rfl
theorem o38_5_2 : o38_5[2]? = some (⟨some 18, .load 9 (.tmp 17), 9, "values.go:69", #[⟨1, .data⟩], none⟩ : Go.Oper) := rfl
theorem o38_5_3 : o38_5[3]? = some (⟨some 19, .move (.tmp 0), 52, "values.go:69", #[], none⟩ : Go.Oper) := rfl
theorem o38_5_4 : o38_5[4]? = some (⟨some 20, .load 125 (.tmp 9), 125, "values.go:69", #[], none⟩ : Go.Oper) := rfl
theorem o38_5_5 : o38_5[5]? = some (⟨some 21, .move (.tmp 2), 3, "values.go:69", #[], none⟩ : Go.Oper) := rfl
theorem o38_5_6 : o38_5[6]? = some (⟨some 22, .call { callee := .value (.func 100), args := #[.tmp 19, .tmp 20, .tmp 21], argTypes := #[52, 125, 3] }, 3, "values.go:69", #[⟨3, .data⟩, ⟨4, .data⟩, ⟨5, .data⟩], none⟩ : Go.Oper) := rfl
theorem o38_5_7 : o38_5[7]? = some (⟨some 23, .call { callee := .value (.func 50), args := #[.tmp 22], argTypes := #[3] }, 9, "values.go:69", #[⟨6, .data⟩, ⟨6, .chain⟩], none⟩ : Go.Oper) := rfl
theorem o38_5_8 : o38_5[8]? = some (⟨some 24, .build 70 #[(0, .tmp 18), (1, .tmp 23)], 70, "values.go:69", #[⟨2, .data⟩, ⟨7, .data⟩], none⟩ : Go.Oper) := rfl
theorem o38_5_9 : o38_5[9]? = some (⟨some 25, .buildSlice 59 1 #[(0, .tmp 24)], 59, "values.go:69", #[⟨8, .data⟩], none⟩ : Go.Oper) := rfl
theorem o38_5_10 : o38_5[10]? = some (⟨some 26, .call { callee := .builtin .append, args := #[.tmp 16, .tmp 25], argTypes := #[59, 59] }, 59, "values.go:69", #[⟨0, .data⟩, ⟨9, .data⟩, ⟨7, .chain⟩], none⟩ : Go.Oper) := rfl
theorem o38_5_11 : o38_5[11]? = some (⟨some 7, .assign (.tmp 26), 59, "values.go:69", #[⟨10, .data⟩, ⟨10, .chain⟩, ⟨0, .phase⟩, ⟨1, .phase⟩, ⟨2, .phase⟩, ⟨3, .phase⟩, ⟨4, .phase⟩, ⟨5, .phase⟩, ⟨6, .phase⟩, ⟨7, .phase⟩, ⟨8, .phase⟩, ⟨9, .phase⟩, ⟨10, .phase⟩], none⟩ : Go.Oper) := rfl
theorem o38_5_ns : Go.Region.noSelect o38_5 = true := by kernel_rfl
set_option maxRecDepth 100000 in
set_option maxHeartbeats 8000000 in
theorem levels_right (lo lo' : Nat) (v u : Value) (xs : List AsD) (ps : List PlD) (t : Int) (w : World) (hv : Ass w lo v xs) (hP : Pls w lo' u ps) (hn : xs.length ≤ 12) (hs : ∀ x ∈ xs, SmallA x) (hp : ∀ y ∈ ps, SmallP y) (hp2 : ∀ y ∈ ps, 0 ≤ y.many ∧ y.many ≤ 12) (hm : ps.length ≤ 10) (ht1 : 1 ≤ t) (ht2 : t ≤ 20)
  (f : PlD → Int) (hff : ∀ y ∈ ps, Int64 (f y)) (hnv : ∀ y ∈ ps, (lvK (vOf (rank xs)) t ps ps.length y.pos).getD 0 = f y) (he : leagueE xs ps t = 0) (hD : DigB w) :
  Calls Tryz.prog 30 #[v, u, .int .i64 t] w (PaTwo (pairF f ps) w) := by
 obtain ⟨i0, hi, hz0, hz1, hz2⟩ := info_parts info_Pa
 have D := Lib.hid (wrongLeague_calls lo lo' v u xs ps t w hv hs (by omega) hP hp (by omega))
 rw [he] at D
 have D2 := Lib.hid (fun W (hb : Below w.heap.size w W) => levelsOf_calls lo lo' v u xs ps t W (hv.below hb) (hP.below hb) hn hs hp hp2 hm ht1 ht2)
 have HNV := Lib.hid hnv
 generalize lvK (vOf (rank xs)) t ps ps.length = L at D2 HNV
 have HD := Lib.hid hD
 have Hp := Lib.hid hp
 have Hf := Lib.hid hff
 have HP := Lib.hid hP
 obtain ⟨a, c, rfl⟩ := as_shape hv
 obtain ⟨pa, pc, rfl⟩ := pl_shape hP
 generalize xs.length = nx at *
 obtain ⟨n, hnn⟩ : ∃ n, ps.length = n := ⟨_, rfl⟩
 have Hn := Lib.hid hnn
 rw [hnn] at D D2 HP hm ⊢
 clear hv hP hs hn hp hp2 he hff hnv hD hnn
 go_enter Tryz.func30, Tryz.ntmps30
 go_wp2_with fail
 refine D.out.mono ?_
 rintro e w0 ⟨rfl, hb0⟩
 have E2 := Lib.hid (D2.out w0 hb0)
 clear D D2
 go_wp2_with fail
 refine E2.out.mono ?_
 rintro e w1 ⟨b, rfl, hI, _, hb01⟩
 have hb1 := below_step hb0 hb01
 have HI0 := Lib.hid hI
 clear E2 hI hb0 hb01
 go_wp2_with fail
 go_loopw [10, 26] (fun o i wr => ∃ k : Nat, k ≤ n ∧ i = .int .i64 k ∧ Hid (OwnPa wr w1.heap.size o (pairF f (ps.take k))) ∧ Below w1.heap.size w1 wr) (fun _ i _ => n - (intOf i).toNat)
 case atStart => exact ⟨0, Nat.zero_le _, rfl, Lib.hid (by simpa [pairF, OwnPa] using World.ownsRow_nil _ _ _ _), Below.refl _ _⟩
 case round =>
  obtain ⟨k, hk, rfl, Hown, hb⟩ := hrel; by_cases hlt : k < n
  ·obtain ⟨y, hy⟩ : ∃ y, ps[k]? = some y := ⟨_, List.getElem?_eq_getElem (by rw [Hn.out]; exact hlt)⟩
   have hyL := List.mem_of_getElem? hy; have hky : y.pos.size ≤ 1000000 := Nat.le_trans (Hp.out y hyL).1 (by decide)
   have hst := pairF_snoc (f := f) hy; have hni := Hf.out y hyL; have hnvE := HNV.out y hyL; obtain ⟨nv, hnv⟩ : ∃ nv, f y = nv := ⟨_, rfl⟩
   rw [hnv] at hst hni hnvE
   have Hst := Lib.hid hst; rcases pl_at HP.out with ⟨_, h⟩ | ⟨g, off, cap, e, _, hgl, _, hcell⟩
   ·rw [h] at hy; simp at hy
   simp only [Value.slice.injEq] at e
   obtain ⟨rfl, -, rfl⟩ := e; obtain ⟨q0, q1⟩ := hcell k y hy; have hbr := below_step hb1 hb; have p0 := below_cell hbr q0; have p1 := below_cell hbr q1; obtain ⟨wA, hwA⟩ : ∃ wA, wA = wr.alloc (.cells #[.string y.pos, .int .i64 y.many] 125) := ⟨_, rfl⟩
   obtain ⟨X, hXe⟩ : ∃ X, X = wr.heap.size := ⟨_, rfl⟩
   have hbA : Below wr.heap.size wr wA := by rw [hwA]; exact below_alloc wr _
   have hx : wA.heap[X]? = some (.cells #[.string y.pos, .int .i64 y.many] 125 (0, 0)) := by rw [hwA, hXe]; exact heap_alloc_new wr _
   have hbW1 := below_step hb hbA; have hbw := below_step hb1 hbW1; have HO := Lib.hid (own_belowG Hown.out hbA); have HX := Lib.hid hx; have x0 := cell_at hx 0 rfl; have x1 := cell_at hx 1 rfl; have HIA := Lib.hid (HI0.out.below hbW1); have HS := Lib.hid (show ∀ w', Below wA.heap.size wA w' → (True ∧ w'.cell? ⟨X, 0, none⟩ = some (.string y.pos) ∧ IMap w' b 10 L) from fun w' hb => ⟨trivial, below_cell hb x0, HIA.out.below hb⟩)
   have hbd := (Below.refl wA.heap.size wA).drew; have hcl : (pairF f (ps.take k)).length ≤ 10 := pairF_len f ps k (by rw [Hn.out]; omega)
   generalize pairF f (ps.take k) = C0 at HO Hst hcl
   clear hcell q0 q1 hbr hb hy Hown hst hnv; go_upto_region 9 with fail
   rw [← hwA, ← hXe]; clear hwA hXe hbA p0 p1 hx x0 x1; show Code.wp _ (Code.region 9 o30_9 true) _ _ _
   refine region_start 12 (fun w' => True ∧ w'.cell? ⟨X, 0, none⟩ = some (.string y.pos) ∧ IMap w' b 10 L) (by kernel_rfl) rfl ?_ (fun hHeld => ?_)
   ·(exact HS.out _ (by first | exact hbd | exact hb07 | exact below_step hb07 (below_alloc _ _)))
   refine take_to 0 30 (bQ 12 1) (v := ?_) o30_9_0 rfl o30_9_ns (by kernel_rfl) (by kernel_rfl) (fun _ _ _ h => h) (by rfl) ?y0q (by assumption) ?_
   case y0q => intro w h; (try dsimp only at h); go_simp; try with_reducible rfl
   simp only [sE0, sE1]; refine take_to 1 31 (bQ 12 3) (v := ?_) o30_9_1 rfl o30_9_ns (by kernel_rfl) (by kernel_rfl) (fun _ _ _ h => h) (by rfl) ?y1q (by assumption) ?_
   case y1q => intro w h; (try dsimp only at h); go_simp; try with_reducible rfl
   simp only [sE0, sE1]; refine take_to 2 32 (bQ 12 7) (v := ?_) o30_9_2 rfl o30_9_ns (by kernel_rfl) (by kernel_rfl) (fun _ _ _ h => h) (by rfl) ?y2q (by assumption) ?_
   case y2q => intro w h; (try dsimp only at h); go_simp; try with_reducible rfl
   simp only [sE0, sE1]; refine take_to 3 33 (bQ 12 15) (v := ?_) o30_9_3 rfl o30_9_ns (by kernel_rfl) (by kernel_rfl) (fun _ _ _ h => h) (by rfl) ?y3q (by assumption) ?_
   case y3q => intro w h; (try dsimp only at h); go_simp; try with_reducible rfl
   simp only [sE0, sE1]; refine take_to 4 34 (bQ 12 31) (v := ?_) o30_9_4 rfl o30_9_ns (by kernel_rfl) (by kernel_rfl) (fun _ _ _ h => h) (by rfl) ?y4q (by assumption) ?_
   case y4q => intro w h; (try dsimp only at h); go_simp; try with_reducible rfl
   simp only [sE0, sE1]; refine take_to 5 35 (bQ 12 63) (v := ?_) o30_9_5 rfl o30_9_ns (by kernel_rfl) (by kernel_rfl) (fun _ _ _ h => h) (by rfl) ?y5q (by assumption) ?_
   case y5q => intro w h; (try dsimp only at h); go_simp; try with_reducible rfl
   simp only [sE0, sE1]; refine take_to 6 36 (bQ 12 127) (v := .int .i64 nv) o30_9_6 rfl o30_9_ns (by kernel_rfl) (by kernel_rfl) (fun _ _ _ h => h) (by rfl) ?y6q (by assumption) ?_
   case y6q =>
    intro w hSw; try dsimp only at hSw
    have hq := hSw.2.2.look y.pos hky; rw [hnvE] at hq
    go_simp; try with_reducible rfl
   simp only [sE0, sE1]; refine run_to 7 (bQ 12 255) o30_9_7 (by kernel_rfl) (by kernel_rfl) (by rfl) (fun K hK => ?_)
   go_simp; refine (itoa_calls nv _ hni (HD.out _ (below_step hbw hbd))).mono ?_; rintro e w7 ⟨rfl, hb7⟩; have hb07 := below_step hbd hb7; go_wp2_with fail
   refine hK.out _ _ ?_ (fun hHeld => ?_)
   ·(exact HS.out _ (by first | exact hbd | exact hb07 | exact below_step hb07 (below_alloc _ _)))
   clear hK K; try simp only [Act.put, sEt, sE0, sE1]
   refine run_to 8 (bQ 12 511) o30_9_8 (by kernel_rfl) (by kernel_rfl) (by rfl) (fun K hK => ?_)
   go_simp; refine hK.out _ _ ?_ (fun hHeld => ?_)
   ·(exact HS.out _ (by first | exact hbd | exact hb07 | exact below_step hb07 (below_alloc _ _)))
   clear hK K; try simp only [Act.put, sEt, sE0, sE1]
   refine run_to 9 (bQ 12 1023) o30_9_9 (by kernel_rfl) (by kernel_rfl) (by rfl) (fun K hK => ?_)
   go_simp; refine hK.out _ _ ?_ (fun hHeld => ?_)
   ·(exact HS.out _ (by first | exact hbd | exact hb07 | exact below_step hb07 (below_alloc _ _)))
   clear hK K; try simp only [Act.put, sEt, sE0, sE1]
   refine run_to 10 (bQ 12 2047) o30_9_10 (by kernel_rfl) (by kernel_rfl) (by rfl) (fun K hK => ?_)
   have hownB := World.ownsRow.alloc (own_belowG HO.out hb07) (.cells #[.string y.pos, .string (itoaS nv)] 70); refine wp_append_at _ (.tmp 30) (.tmp 39) 59 rfl w1.heap.size 70 i0 (.agg #[.string ⟨#[]⟩, .string ⟨#[]⟩]) 2 32 Tryz.underlying59 hi hz0 hz1 hz2 rfl (by decide) _ C0.length _ rfl hownB _ 1 1 [.string y.pos, .string (itoaS nv)] rfl rfl (cells_newG w7 [.string y.pos, .string (itoaS nv)] _) (by simp [Value.oneCell']) (by unfold maxLen; omega) (by omega) (by have h1 := hb07.size; have h2 := hbW1.size; simp; omega) ?_
   intro v2 w2 hown2 hgrow; have hbF := (below_step (below_step hbW1 hb07) (below_alloc w7 (.cells #[.string y.pos, .string (itoaS nv)] 70))).grown hgrow (by have h1 := hb07.size; have h2 := hbW1.size; simp; omega) fun r hr => (own_block hownB r hr).1
   have hxE : w2.heap[X]? = some (.cells #[.string y.pos, .int .i64 y.many] 125 (0, 0)) := (hgrow.block X (lt_of_heap (cells_later HX.out (below_step hb07 (below_alloc w7 (.cells #[.string y.pos, .string (itoaS nv)] 70))))) (fun e => by obtain ⟨_, cur, hc⟩ := own_block hownB _ e.symm; rw [cells_later HX.out (below_step hb07 (below_alloc w7 (.cells #[.string y.pos, .string (itoaS nv)] 70)))] at hc; simp at hc)).trans (cells_later HX.out (below_step hb07 (below_alloc w7 (.cells #[.string y.pos, .string (itoaS nv)] 70))))
   have hIE : IMap w2 b 10 L := ((HIA.out.below (below_step hb07 (below_alloc w7 (.cells #[.string y.pos, .string (itoaS nv)] 70)))).kept hgrow (fun e => by obtain ⟨_, cur, hc⟩ := own_block hownB _ e.symm; obtain ⟨es, cl, hm⟩ := (HIA.out.below (below_step hb07 (below_alloc w7 (.cells #[.string y.pos, .string (itoaS nv)] 70)))).map; rw [hm] at hc; cases hc))
   refine hK.out _ _ ?_ (fun hHeld => ?_)
   ·(exact ⟨trivial, cell_at hxE 0 rfl, hIE⟩)
   clear hK K; try simp only [Act.put, sEt, sE0, sE1]
   refine take_to 11 10 (bQ 12 4095) (v := ?_) o30_9_11 rfl o30_9_ns (by kernel_rfl) (by kernel_rfl) (fun _ _ _ h => h) (by rfl) ?y11q (by assumption) ?_
   case y11q => intro w h; (try dsimp only at h); go_simp; try with_reducible rfl
   simp only [sE0, sE1]; refine wpAnyH_done (by kernel_rfl) ?_ _
   have HO5 : Hid (OwnPa w2 w1.heap.size v2 (pairF f (ps.take (k + 1)))) := Lib.hid (by
    rw [Hst.out]; unfold OwnPa
    have e : ((C0 ++ [(⟨y.pos, itoaS nv⟩ : PaD)]).map paRow).flatten = (C0.map paRow).flatten ++ [.string y.pos, .string (itoaS nv)] := by simp [paRow]
    rw [e, List.length_append, List.length_singleton]; exact hown2)
   clear hgrow hown2 hownB hHeld HS hxE; go_wp2_with fail
   go_roundw
   case rel => exact ⟨k + 1, by omega, by go_num, HO5, hbF⟩
   case measure => simp [intOf]; omega
  ·obtain rfl : k = n := by omega
   have Hall := Lib.hid (show ps.take k = ps by rw [← Hn.out, List.take_length])
   rw [Hall.out] at Hown
   have HO5 := Lib.hid (show OwnPa wr w.heap.size _ (pairF f ps) from own_lowerG Hown.out hb1.size)
   have hbe := below_step hb1 hb; clear Hown; go_wp2_with fail
   go_ret2
   exact ⟨_, HO5.out, rfl, hbe⟩
set_option maxRecDepth 100000 in
set_option maxHeartbeats 8000000 in
theorem levelsOf_ref (lo lo' : Nat) (v u : Value) (xs : List AsD) (ps : List PlD) (t : Int) (w : World) (hv : Ass w lo v xs) (hP : Pls w lo' u ps) (hr : RiseA xs) (hn : xs.length ≤ 12) (hp : ∀ y ∈ ps, SmallP y) (hp2 : ∀ y ∈ ps, 0 ≤ y.many ∧ y.many ≤ 12) (hm : ps.length ≤ 10) (ht1 : 1 ≤ t) (ht2 : t ≤ 20)
  (f : PlD → Int) (hff : ∀ y ∈ ps, Int64 (f y)) (hnv : ∀ y ∈ ps, levelR xs y t = f y) (hD : DigB w) :
  Calls Tryz.prog 38 #[v, u, .int .i64 t] w (MadePa (pairF f ps) w) := by
 obtain ⟨i0, hi, hz0, hz1, hz2⟩ := info_parts info_Pa
 have DL := Lib.hid (fun (y : PlD) (hy : y ∈ ps) W (hb : Below w.heap.size w W) => level_calls lo v xs y t W (hv.below hb) hr hn (hp2 y hy).1 (hp2 y hy).2 ht1 ht2)
 have HNV := Lib.hid hnv
 have HD := Lib.hid hD
 have Hp := Lib.hid hp
 have Hf := Lib.hid hff
 have HP := Lib.hid hP
 obtain ⟨a, c, rfl⟩ := as_shape hv
 obtain ⟨pa, pc, rfl⟩ := pl_shape hP
 generalize xs.length = nx at *
 obtain ⟨n, hnn⟩ : ∃ n, ps.length = n := ⟨_, rfl⟩
 have Hn := Lib.hid hnn
 rw [hnn] at HP hm ⊢
 have hb1 := Below.refl w.heap.size w
 clear hv hP hr hn hp hp2 hff hnv hD hnn
 go_enter Tryz.func38, Tryz.ntmps38
 go_wp2_with fail
 go_loopw [7, 12] (fun o i wr => ∃ k : Nat, k ≤ n ∧ i = .int .i64 k ∧ Hid (OwnPa wr w.heap.size o (pairF f (ps.take k))) ∧ Below w.heap.size w wr) (fun _ i _ => n - (intOf i).toNat)
 case atStart => exact ⟨0, Nat.zero_le _, rfl, Lib.hid (by simpa [pairF, OwnPa] using World.ownsRow_nil _ _ _ _), Below.refl _ _⟩
 case round =>
  obtain ⟨k, hk, rfl, Hown, hb⟩ := hrel; by_cases hlt : k < n
  ·obtain ⟨y, hy⟩ : ∃ y, ps[k]? = some y := ⟨_, List.getElem?_eq_getElem (by rw [Hn.out]; exact hlt)⟩
   have hyL := List.mem_of_getElem? hy; have hky : y.pos.size ≤ 1000000 := Nat.le_trans (Hp.out y hyL).1 (by decide)
   have hst := pairF_snoc (f := f) hy; have hni := Hf.out y hyL; have hnvE := HNV.out y hyL; obtain ⟨nv, hnv⟩ : ∃ nv, f y = nv := ⟨_, rfl⟩
   rw [hnv] at hst hni hnvE
   have Hst := Lib.hid hst; rcases pl_at HP.out with ⟨_, h⟩ | ⟨g, off, cap, e, _, hgl, _, hcell⟩
   ·rw [h] at hy; simp at hy
   simp only [Value.slice.injEq] at e
   obtain ⟨rfl, -, rfl⟩ := e; obtain ⟨q0, q1⟩ := hcell k y hy; have hbr := below_step hb1 hb; have p0 := below_cell hbr q0; have p1 := below_cell hbr q1; obtain ⟨wA, hwA⟩ : ∃ wA, wA = wr.alloc (.cells #[.string y.pos, .int .i64 y.many] 125) := ⟨_, rfl⟩
   obtain ⟨X, hXe⟩ : ∃ X, X = wr.heap.size := ⟨_, rfl⟩
   have hbA : Below wr.heap.size wr wA := by rw [hwA]; exact below_alloc wr _
   have hx : wA.heap[X]? = some (.cells #[.string y.pos, .int .i64 y.many] 125 (0, 0)) := by rw [hwA, hXe]; exact heap_alloc_new wr _
   have hbW1 := below_step hb hbA; have hbw := below_step hb1 hbW1; have HO := Lib.hid (own_belowG Hown.out hbA); have HX := Lib.hid hx; have x0 := cell_at hx 0 rfl; have x1 := cell_at hx 1 rfl; have HS := Lib.hid (show ∀ w', Below wA.heap.size wA w' → (True ∧ w'.cell? ⟨X, 0, none⟩ = some (.string y.pos) ∧ w'.cell? ⟨X, 1, none⟩ = some (.int .i64 y.many)) from fun w' hb => ⟨trivial, below_cell hb x0, below_cell hb x1⟩)
   have hbd := (Below.refl wA.heap.size wA).drew; have hcl : (pairF f (ps.take k)).length ≤ 10 := pairF_len f ps k (by rw [Hn.out]; omega)
   generalize pairF f (ps.take k) = C0 at HO Hst hcl
   clear hcell q0 q1 hbr hb hy Hown hst hnv; go_upto_region 5 with fail
   rw [← hwA, ← hXe]; clear hwA hXe hbA p0 p1 hx x0 x1; show Code.wp _ (Code.region 5 o38_5 true) _ _ _
   refine region_start 12 (fun w' => True ∧ w'.cell? ⟨X, 0, none⟩ = some (.string y.pos) ∧ w'.cell? ⟨X, 1, none⟩ = some (.int .i64 y.many)) (by kernel_rfl) rfl ?_ (fun hHeld => ?_)
   ·(exact HS.out _ (by first | exact hbd | exact hb06 | exact hb07 | exact below_step hb07 (below_alloc _ _)))
   refine take_to 0 16 (bQ 12 1) (v := ?_) o38_5_0 rfl o38_5_ns (by kernel_rfl) (by kernel_rfl) (fun _ _ _ h => h) (by rfl) ?y0q (by assumption) ?_
   case y0q => intro w h; (try dsimp only at h); go_simp; try with_reducible rfl
   simp only [sE0, sE1]; refine take_to 1 17 (bQ 12 3) (v := ?_) o38_5_1 rfl o38_5_ns (by kernel_rfl) (by kernel_rfl) (fun _ _ _ h => h) (by rfl) ?y1q (by assumption) ?_
   case y1q => intro w h; (try dsimp only at h); go_simp; try with_reducible rfl
   simp only [sE0, sE1]; refine take_to 2 18 (bQ 12 7) (v := ?_) o38_5_2 rfl o38_5_ns (by kernel_rfl) (by kernel_rfl) (fun _ _ _ h => h) (by rfl) ?y2q (by assumption) ?_
   case y2q => intro w h; (try dsimp only at h); go_simp; try with_reducible rfl
   simp only [sE0, sE1]; refine take_to 3 19 (bQ 12 15) (v := ?_) o38_5_3 rfl o38_5_ns (by kernel_rfl) (by kernel_rfl) (fun _ _ _ h => h) (by rfl) ?y3q (by assumption) ?_
   case y3q => intro w h; (try dsimp only at h); go_simp; try with_reducible rfl
   simp only [sE0, sE1]; refine take_to 4 20 (bQ 12 31) (v := ?_) o38_5_4 rfl o38_5_ns (by kernel_rfl) (by kernel_rfl) (fun _ _ _ h => h) (by rfl) ?y4q (by assumption) ?_
   case y4q => intro w h; (try dsimp only at h); go_simp; try with_reducible rfl
   simp only [sE0, sE1]; refine take_to 5 21 (bQ 12 63) (v := ?_) o38_5_5 rfl o38_5_ns (by kernel_rfl) (by kernel_rfl) (fun _ _ _ h => h) (by rfl) ?y5q (by assumption) ?_
   case y5q => intro w h; (try dsimp only at h); go_simp; try with_reducible rfl
   simp only [sE0, sE1]; refine run_to 6 (bQ 12 127) o38_5_6 (by kernel_rfl) (by kernel_rfl) (by rfl) (fun K hK => ?_)
   go_simp; refine (DL.out y hyL _ (below_step hbw hbd)).mono ?_; rintro e w6 ⟨rfl, hb6⟩; have hb06 := below_step hbd hb6; rw [hnvE]; go_wp2_with fail
   refine hK.out _ _ ?_ (fun hHeld => ?_)
   ·(exact HS.out _ (by first | exact hbd | exact hb06 | exact hb07 | exact below_step hb07 (below_alloc _ _)))
   clear hK K; try simp only [Act.put, sEt, sE0, sE1]
   refine run_to 7 (bQ 12 255) o38_5_7 (by kernel_rfl) (by kernel_rfl) (by rfl) (fun K hK => ?_)
   go_simp; refine (itoa_calls nv _ hni (HD.out _ (below_step hbw hb06))).mono ?_; rintro e w7 ⟨rfl, hb7⟩; have hb07 := below_step hb06 hb7; go_wp2_with fail
   refine hK.out _ _ ?_ (fun hHeld => ?_)
   ·(exact HS.out _ (by first | exact hbd | exact hb06 | exact hb07 | exact below_step hb07 (below_alloc _ _)))
   clear hK K; try simp only [Act.put, sEt, sE0, sE1]
   refine run_to 8 (bQ 12 511) o38_5_8 (by kernel_rfl) (by kernel_rfl) (by rfl) (fun K hK => ?_)
   go_simp; refine hK.out _ _ ?_ (fun hHeld => ?_)
   ·(exact HS.out _ (by first | exact hbd | exact hb06 | exact hb07 | exact below_step hb07 (below_alloc _ _)))
   clear hK K; try simp only [Act.put, sEt, sE0, sE1]
   refine run_to 9 (bQ 12 1023) o38_5_9 (by kernel_rfl) (by kernel_rfl) (by rfl) (fun K hK => ?_)
   go_simp; refine hK.out _ _ ?_ (fun hHeld => ?_)
   ·(exact HS.out _ (by first | exact hbd | exact hb06 | exact hb07 | exact below_step hb07 (below_alloc _ _)))
   clear hK K; try simp only [Act.put, sEt, sE0, sE1]
   refine run_to 10 (bQ 12 2047) o38_5_10 (by kernel_rfl) (by kernel_rfl) (by rfl) (fun K hK => ?_)
   have hownB := World.ownsRow.alloc (own_belowG HO.out hb07) (.cells #[.string y.pos, .string (itoaS nv)] 70); refine wp_append_at _ (.tmp 16) (.tmp 25) 59 rfl w.heap.size 70 i0 (.agg #[.string ⟨#[]⟩, .string ⟨#[]⟩]) 2 32 Tryz.underlying59 hi hz0 hz1 hz2 rfl (by decide) _ C0.length _ rfl hownB _ 1 1 [.string y.pos, .string (itoaS nv)] rfl rfl (cells_newG w7 [.string y.pos, .string (itoaS nv)] _) (by simp [Value.oneCell']) (by unfold maxLen; omega) (by omega) (by have h1 := hb07.size; have h2 := hbW1.size; simp; omega) ?_
   intro v2 w2 hown2 hgrow; have hbF := (below_step (below_step hbW1 hb07) (below_alloc w7 (.cells #[.string y.pos, .string (itoaS nv)] 70))).grown hgrow (by have h1 := hb07.size; have h2 := hbW1.size; simp; omega) fun r hr => (own_block hownB r hr).1
   have hxE : w2.heap[X]? = some (.cells #[.string y.pos, .int .i64 y.many] 125 (0, 0)) := (hgrow.block X (lt_of_heap (cells_later HX.out (below_step hb07 (below_alloc w7 (.cells #[.string y.pos, .string (itoaS nv)] 70))))) (fun e => by obtain ⟨_, cur, hc⟩ := own_block hownB _ e.symm; rw [cells_later HX.out (below_step hb07 (below_alloc w7 (.cells #[.string y.pos, .string (itoaS nv)] 70)))] at hc; simp at hc)).trans (cells_later HX.out (below_step hb07 (below_alloc w7 (.cells #[.string y.pos, .string (itoaS nv)] 70))))
   refine hK.out _ _ ?_ (fun hHeld => ?_)
   ·(exact ⟨trivial, cell_at hxE 0 rfl, cell_at hxE 1 rfl⟩)
   clear hK K; try simp only [Act.put, sEt, sE0, sE1]
   refine take_to 11 7 (bQ 12 4095) (v := ?_) o38_5_11 rfl o38_5_ns (by kernel_rfl) (by kernel_rfl) (fun _ _ _ h => h) (by rfl) ?y11q (by assumption) ?_
   case y11q => intro w h; (try dsimp only at h); go_simp; try with_reducible rfl
   simp only [sE0, sE1]; refine wpAnyH_done (by kernel_rfl) ?_ _
   have HO5 : Hid (OwnPa w2 w.heap.size v2 (pairF f (ps.take (k + 1)))) := Lib.hid (by
    rw [Hst.out]; unfold OwnPa
    have e : ((C0 ++ [(⟨y.pos, itoaS nv⟩ : PaD)]).map paRow).flatten = (C0.map paRow).flatten ++ [.string y.pos, .string (itoaS nv)] := by simp [paRow]
    rw [e, List.length_append, List.length_singleton]; exact hown2)
   clear hgrow hown2 hownB hHeld HS hxE; go_wp2_with fail
   go_roundw
   case rel => exact ⟨k + 1, by omega, by go_num, HO5, hbF⟩
   case measure => simp [intOf]; omega
  ·obtain rfl : k = n := by omega
   have Hall := Lib.hid (show ps.take k = ps by rw [← Hn.out, List.take_length])
   rw [Hall.out] at Hown
   have HO5 := Lib.hid (show OwnPa wr w.heap.size _ (pairF f ps) from own_lowerG Hown.out hb1.size)
   have hbe := below_step hb1 hb; clear Hown; go_wp2_with fail
   go_ret
   exact ⟨_, HO5.out, rfl, hbe⟩
end Go.Proofs.YtddnnjblpgfjeaaGreatDoor
/- The worths: the reference's way. -/
namespace Go.Proofs.YtddnnjblpgfjeaaGreatDoor
open Go.RowKit

/-- Before they are put in order: of each place of one's position. -/
def overX (f : PlD → Int) (x : AsD) (ps : List PlD) : List OvD := ps.filterMap fun y => if beqS x.pos y.pos then some ⟨x.player, x.value - f y, 0⟩ else none
def overR (f : PlD → Int) (ps : List PlD) (xs : List AsD) : List OvD := xs.flatMap fun x => overX f x ps
theorem overX_snoc {f : PlD → Int} {x : AsD} {ps : List PlD} {k : Nat} {y : PlD} (h : ps[k]? = some y) : overX f x (ps.take (k + 1)) = overX f x (ps.take k) ++ if beqS x.pos y.pos then [⟨x.player, x.value - f y, 0⟩] else [] := by
 rw [take_snocG h]
 unfold overX
 rw [List.filterMap_append]
 cases hq : beqS x.pos y.pos <;> simp [hq]
theorem overR_snoc {f : PlD → Int} {ps : List PlD} {xs : List AsD} {k : Nat} {x : AsD} (h : xs[k]? = some x) : overR f ps (xs.take (k + 1)) = overR f ps (xs.take k) ++ overX f x ps := by
 rw [take_snocG h]
 unfold overR
 rw [List.flatMap_append]
 simp
theorem overX_len (f : PlD → Int) (x : AsD) (ps : List PlD) : (overX f x ps).length ≤ ps.length := List.length_filterMap_le _ _
theorem overR_len (f : PlD → Int) (ps : List PlD) : ∀ xs : List AsD, (overR f ps xs).length ≤ xs.length * ps.length
 | [] => by simp [overR]
 | x :: xs => by
  have h1 := overR_len f ps xs; have h2 := overX_len f x ps; unfold overR at h1 ⊢
  rw [List.flatMap_cons, List.length_append, List.length_cons, Nat.succ_mul]; omega
def o40_9 : Array Go.Oper := #[
 ⟨some 32, .move (.tmp 7), 62, "values.go:80", #[], none⟩,
 ⟨some 33, .fieldAddr 78 (.tmp 9) 0, 0, "values.go:80", #[], none⟩,
 ⟨some 34, .load 9 (.tmp 33), 9, "values.go:80", #[⟨1, .data⟩], none⟩,
 ⟨some 35, .fieldAddr 78 (.tmp 9) 2, 0, "values.go:80", #[], none⟩,
 ⟨some 36, .load 3 (.tmp 35), 3, "values.go:80", #[⟨3, .data⟩], none⟩,
 ⟨some 37, .move (.tmp 0), 52, "values.go:80", #[], none⟩,
 ⟨some 38, .load 125 (.tmp 11), 125, "values.go:80", #[], none⟩,
 ⟨some 39, .move (.tmp 2), 3, "values.go:80", #[], none⟩,
 ⟨some 40, .call { callee := .value (.func 100), args := #[.tmp 37, .tmp 38, .tmp 39], argTypes := #[52, 125, 3] }, 3, "values.go:80", #[⟨5, .data⟩, ⟨6, .data⟩, ⟨7, .data⟩], none⟩,
 ⟨some 41, .binOp .sub 3 (.tmp 36) (.tmp 40) 3, 3, "values.go:80", #[⟨4, .data⟩, ⟨8, .data⟩], none⟩,
 ⟨some 42, .build 74 #[(0, .tmp 34), (1, .tmp 41)], 74, "values.go:80", #[⟨2, .data⟩, ⟨9, .data⟩], none⟩,
 ⟨some 43, .buildSlice 62 1 #[(0, .tmp 42)], 62, "values.go:80", #[⟨10, .data⟩], none⟩,
 ⟨some 44, .call { callee := .builtin .append, args := #[.tmp 32, .tmp 43], argTypes := #[62, 62] }, 62, "values.go:80", #[⟨0, .data⟩, ⟨11, .data⟩, ⟨8, .chain⟩], none⟩,
 ⟨some 7, .assign (.tmp 44), 62, "values.go:80", #[⟨12, .data⟩, ⟨12, .chain⟩, ⟨0, .phase⟩, ⟨1, .phase⟩, ⟨2, .phase⟩, ⟨3, .phase⟩, ⟨4, .phase⟩, ⟨5, .phase⟩, ⟨6, .phase⟩, ⟨7, .phase⟩, ⟨8, .phase⟩, ⟨9, .phase⟩, ⟨10, .phase⟩, ⟨11, .phase⟩, ⟨12, .phase⟩], none⟩]
theorem o40_9_0 : o40_9[0]? = some (⟨some 32, .move (.tmp 7), 62, "values.go:80", #[], none⟩ : Go.Oper) := rfl
theorem o40_9_1 : o40_9[1]? = some (⟨some 33, .fieldAddr 78 (.tmp 9) 0, 0, "values.go:80", #[], none⟩ : Go.Oper) := rfl
theorem o40_9_2 : o40_9[2]? = some (⟨some 34, .load 9 (.tmp 33), 9, "values.go:80", #[⟨1, .data⟩], none⟩ : Go.Oper) := rfl
theorem o40_9_3 : o40_9[3]? = some (⟨some 35, .fieldAddr 78 (.tmp 9) 2, 0, "values.go:80", #[], none⟩ : Go.Oper) := rfl
theorem o40_9_4 : o40_9[4]? = some (⟨some 36, .load 3 (.tmp 35), 3, "values.go:80", #[⟨3, .data⟩], none⟩ : Go.Oper) := rfl
theorem o40_9_5 : o40_9[5]? = some (⟨some 37, .move (.tmp 0), 52, "values.go:80", #[], none⟩ : Go.Oper) := rfl
theorem o40_9_6 : o40_9[6]? = some (⟨some 38, .load 125 (.tmp 11), 125, "values.go:80", #[], none⟩ : Go.Oper) := rfl
theorem o40_9_7 : o40_9[7]? = some (⟨some 39, .move (.tmp 2), 3, "values.go:80", #[], none⟩ : Go.Oper) := rfl
theorem o40_9_8 : o40_9[8]? = some (⟨some 40, .call { callee := .value (.func 100), args := #[.tmp 37, .tmp 38, .tmp 39], argTypes := #[52, 125, 3] }, 3, "values.go:80", #[⟨5, .data⟩, ⟨6, .data⟩, ⟨7, .data⟩], none⟩ : Go.Oper) := rfl
theorem o40_9_9 : o40_9[9]? = some (⟨some 41, .binOp .sub 3 (.tmp 36) (.tmp 40) 3, 3, "values.go:80", #[⟨4, .data⟩, ⟨8, .data⟩], none⟩ : Go.Oper) := rfl
theorem o40_9_10 : o40_9[10]? = some (⟨some 42, .build 74 #[(0, .tmp 34), (1, .tmp 41)], 74, "values.go:80", #[⟨2, .data⟩, ⟨9, .data⟩], none⟩ : Go.Oper) := rfl
theorem o40_9_11 : o40_9[11]? = some (⟨some 43, .buildSlice 62 1 #[(0, .tmp 42)], 62, "values.go:80", #[⟨10, .data⟩], none⟩ : Go.Oper) := rfl
theorem o40_9_12 : o40_9[12]? = some (⟨some 44, .call { callee := .builtin .append, args := #[.tmp 32, .tmp 43], argTypes := #[62, 62] }, 62, "values.go:80", #[⟨0, .data⟩, ⟨11, .data⟩, ⟨8, .chain⟩], none⟩ : Go.Oper) := rfl
theorem o40_9_13 : o40_9[13]? = some (⟨some 7, .assign (.tmp 44), 62, "values.go:80", #[⟨12, .data⟩, ⟨12, .chain⟩, ⟨0, .phase⟩, ⟨1, .phase⟩, ⟨2, .phase⟩, ⟨3, .phase⟩, ⟨4, .phase⟩, ⟨5, .phase⟩, ⟨6, .phase⟩, ⟨7, .phase⟩, ⟨8, .phase⟩, ⟨9, .phase⟩, ⟨10, .phase⟩, ⟨11, .phase⟩, ⟨12, .phase⟩], none⟩ : Go.Oper) := rfl
theorem o40_9_ns : Go.Region.noSelect o40_9 = true := by kernel_rfl
def o40_20 : Array Go.Oper := #[
 ⟨some 64, .fieldAddr 74 (.tmp 14) 1, 0, "values.go:88", #[], none⟩,
 ⟨some 65, .load 3 (.tmp 64), 3, "values.go:88", #[⟨0, .data⟩], none⟩,
 ⟨some 66, .move (.tmp 7), 62, "values.go:88", #[], none⟩,
 ⟨some 67, .move (.tmp 12), 3, "values.go:88", #[], none⟩,
 ⟨some 68, .indexAddr 62 (.tmp 66) (.tmp 67), 0, "values.go:88", #[⟨2, .data⟩, ⟨3, .data⟩], none⟩,
 ⟨some 69, .fieldAddr 74 (.tmp 68) 1, 0, "values.go:88", #[⟨4, .data⟩], none⟩,
 ⟨some 70, .load 3 (.tmp 69), 3, "values.go:88", #[⟨5, .data⟩], none⟩,
 ⟨some 71, .binOp .gtr 3 (.tmp 65) (.tmp 70) 3, 4, "values.go:88", #[⟨1, .data⟩, ⟨6, .data⟩], none⟩]
theorem o40_20_0 : o40_20[0]? = some (⟨some 64, .fieldAddr 74 (.tmp 14) 1, 0, "values.go:88", #[], none⟩ : Go.Oper) := rfl
theorem o40_20_1 : o40_20[1]? = some (⟨some 65, .load 3 (.tmp 64), 3, "values.go:88", #[⟨0, .data⟩], none⟩ : Go.Oper) := rfl
theorem o40_20_2 : o40_20[2]? = some (⟨some 66, .move (.tmp 7), 62, "values.go:88", #[], none⟩ : Go.Oper) := rfl
theorem o40_20_3 : o40_20[3]? = some (⟨some 67, .move (.tmp 12), 3, "values.go:88", #[], none⟩ : Go.Oper) := rfl
theorem o40_20_4 : o40_20[4]? = some (⟨some 68, .indexAddr 62 (.tmp 66) (.tmp 67), 0, "values.go:88", #[⟨2, .data⟩, ⟨3, .data⟩], none⟩ : Go.Oper) := rfl
theorem o40_20_5 : o40_20[5]? = some (⟨some 69, .fieldAddr 74 (.tmp 68) 1, 0, "values.go:88", #[⟨4, .data⟩], none⟩ : Go.Oper) := rfl
theorem o40_20_6 : o40_20[6]? = some (⟨some 70, .load 3 (.tmp 69), 3, "values.go:88", #[⟨5, .data⟩], none⟩ : Go.Oper) := rfl
theorem o40_20_7 : o40_20[7]? = some (⟨some 71, .binOp .gtr 3 (.tmp 65) (.tmp 70) 3, 4, "values.go:88", #[⟨1, .data⟩, ⟨6, .data⟩], none⟩ : Go.Oper) := rfl
theorem o40_20_ns : Go.Region.noSelect o40_20 = true := by kernel_rfl
/-- Ranks by a function of the place. -/
def rkBy (r : Nat → Int) (l : List OvD) (k : Nat) : List OvD := l.mapIdx fun i x => if i < k then ⟨x.player, x.worth, r i⟩ else x
theorem rkBy_zero (r : Nat → Int) (l : List OvD) : rkBy r l 0 = l := by
 refine List.ext_getElem? fun i => ?_
 unfold rkBy
 rw [List.getElem?_mapIdx]
 cases l[i]? <;> simp
theorem rkBy_len (r : Nat → Int) (l : List OvD) (k : Nat) : (rkBy r l k).length = l.length := by unfold rkBy; simp
theorem rkBy_at {r : Nat → Int} {l : List OvD} {i : Nat} {x : OvD} (k : Nat) (h : l[i]? = some x) : (rkBy r l k)[i]? = some (if i < k then ⟨x.player, x.worth, r i⟩ else x) := by
 unfold rkBy
 rw [List.getElem?_mapIdx, h]; rfl
theorem rkBy_succ {r : Nat → Int} {l : List OvD} {k : Nat} {x : OvD} (h : l[k]? = some x) : (rkBy r l k).set k ⟨x.player, x.worth, r k⟩ = rkBy r l (k + 1) := by
 refine List.ext_getElem? fun i => ?_
 have hk := (List.getElem?_eq_some_iff.1 h).1
 rw [List.getElem?_set]
 by_cases e : k = i
 ·subst e
  rw [if_pos rfl, if_pos (by rw [rkBy_len]; exact hk), rkBy_at (k + 1) h, if_pos (Nat.lt_succ_self k)]
 ·rw [if_neg e]
  unfold rkBy; rw [List.getElem?_mapIdx, List.getElem?_mapIdx]; cases hq : l[i]? with
  | none => rfl
  | some y =>
   simp only [Option.map_some]; by_cases h1 : i < k
   ·rw [if_pos h1, if_pos (by omega)]
   ·rw [if_neg h1, if_neg (by omega)]
theorem rkBy_worth {r : Nat → Int} {l : List OvD} {i j : Nat} {x y : OvD} (c : Int) (hx : l[i]? = some x) (hy : l[j]? = some y) : ∃ z, ((rkBy r l i).set i ⟨x.player, x.worth, c⟩)[j]? = some z ∧ z.worth = y.worth := by
 rw [List.getElem?_set]
 by_cases e : i = j
 ·subst e
  rw [hx] at hy
  obtain rfl := Option.some.inj hy
  rw [if_pos rfl, if_pos (by rw [rkBy_len]; exact (List.getElem?_eq_some_iff.1 hx).1)]
  exact ⟨_, rfl, rfl⟩
 ·rw [if_neg e, rkBy_at i hy]
  by_cases h1 : j < i
  ·rw [if_pos h1]; exact ⟨_, rfl, rfl⟩
  ·rw [if_neg h1]; exact ⟨_, rfl, rfl⟩
/-- How many are worth more. -/
def cntW (l : List OvD) (wx : Int) : Nat := (l.filter fun y => decide (wx < y.worth)).length
theorem cntW_snoc {l : List OvD} {j : Nat} {y : OvD} (wx : Int) (h : l[j]? = some y) : cntW (l.take (j + 1)) wx = cntW (l.take j) wx + if wx < y.worth then 1 else 0 := by
 rw [take_snocG h]
 unfold cntW
 rw [List.filter_append, List.length_append]
 by_cases hq : wx < y.worth <;> simp [hq]
theorem cntW_le (l : List OvD) (wx : Int) : cntW l wx ≤ l.length := List.length_filter_le _ _
def rkC (l : List OvD) (i : Nat) : Int := 1 + (cntW l (ovAt l i).worth : Int)
set_option maxRecDepth 100000 in
set_option maxHeartbeats 8000000 in
theorem worthsFor_calls (lo lo' : Nat) (v u : Value) (xs : List AsD) (ps : List PlD) (t : Int) (w : World) (hv : Ass w lo v xs) (hP : Pls w lo' u ps) (hr : RiseA xs) (hn : xs.length ≤ 12) (hs : ∀ x ∈ xs, SmallA x) (hf : ∀ x ∈ xs, FitA x) (hp : ∀ y ∈ ps, SmallP y) (hp2 : ∀ y ∈ ps, 0 ≤ y.many ∧ y.many ≤ 12) (hm : ps.length ≤ 10) (ht1 : 1 ≤ t) (ht2 : t ≤ 20)
  (f : PlD → Int) (hff : ∀ y ∈ ps, -1000000 ≤ f y ∧ f y ≤ 1000000) (hnv : ∀ y ∈ ps, levelR xs y t = f y) (RES : List OvD) (hO : (overR f ps xs).length ≤ 12) (hRES : rkBy (rkC (insL cmpO (overR f ps xs))) (insL cmpO (overR f ps xs)) (insL cmpO (overR f ps xs)).length = RES) :
  Calls Tryz.prog 40 #[v, u, .int .i64 t] w (MadeOv RES w) := by
 obtain ⟨i0, hi, hz0, hz1, hz2⟩ := info_parts info_Ov
 have DL := Lib.hid (fun (y : PlD) (hy : y ∈ ps) W (hb : Below w.heap.size w W) => level_calls lo v xs y t W (hv.below hb) hr hn (hp2 y hy).1 (hp2 y hy).2 ht1 ht2)
 have HNV := Lib.hid hnv
 have HRES := Lib.hid hRES
 have HOall := Lib.hid hO
 have Hp := Lib.hid hp
 have Hs := Lib.hid hs
 have Hf := Lib.hid hf
 have Hff := Lib.hid hff
 have HA := Lib.hid hv
 have HP := Lib.hid hP
 have HOl := Lib.hid (fun (k j : Nat) => show (overR f ps (xs.take k)).length ≤ 120 by
  have h1 := overR_len f ps (xs.take k); have h2 : (xs.take k).length ≤ 12 := Nat.le_trans (List.length_take_le' _ _) hn
  have h3 : (xs.take k).length * ps.length ≤ 12 * 10 := Nat.mul_le_mul h2 hm
  omega)
 obtain ⟨a, c, rfl⟩ := as_shape hv
 obtain ⟨pa, pc, rfl⟩ := pl_shape hP
 obtain ⟨n, hnn⟩ : ∃ n, xs.length = n := ⟨_, rfl⟩
 have Hn := Lib.hid hnn
 obtain ⟨np, hnp⟩ : ∃ np, ps.length = np := ⟨_, rfl⟩
 have Hnp := Lib.hid hnp
 have Hall := Lib.hid (show xs.take n = xs by rw [← hnn, List.take_length])
 have Hallp := Lib.hid (show ps.take np = ps by rw [← hnp, List.take_length])
 rw [hnn] at DL HA hn ⊢
 rw [hnp] at HP hm ⊢
 clear hv hP hr hs hf hp hp2 hff hnv hnn hnp hRES hO
 go_enter Tryz.func40, Tryz.ntmps40
 go_wp2_with fail
 go_loopw [7, 17] (fun q i wr => ∃ k : Nat, k ≤ n ∧ i = .int .i64 k ∧ Hid (OwnOv wr w.heap.size q (overR f ps (xs.take k))) ∧ Below w.heap.size w wr) (fun _ i _ => n - (intOf i).toNat)
 case atStart => exact ⟨0, Nat.zero_le _, rfl, Lib.hid (by simpa [overR, OwnOv] using World.ownsRow_nil _ _ _ _), Below.refl _ _⟩
 case round =>
  obtain ⟨k, hk, rfl, Hown, hb⟩ := hrel; by_cases hlt : k < n
  ·obtain ⟨x, hx⟩ : ∃ x, xs[k]? = some x := ⟨_, List.getElem?_eq_getElem (by rw [Hn.out]; exact hlt)⟩
   obtain ⟨hf1, hf2⟩ := Hf.out x (List.mem_of_getElem? hx); have Hst := Lib.hid (overR_snoc (f := f) (ps := ps) hx); rcases as_at HA.out with ⟨_, h⟩ | ⟨g, off, cap, e, _, hgl, _, hcell⟩
   ·rw [h] at hx; simp at hx
   simp only [Value.slice.injEq] at e
   obtain ⟨rfl, -, rfl⟩ := e; obtain ⟨q0, q1, q2⟩ := hcell k x hx; have p0 := below_cell hb q0; have p1 := below_cell hb q1; have p2 := below_cell hb q2; obtain ⟨w0, hw0⟩ : ∃ w0, w0 = wr.alloc (.cells #[.string x.player, .string x.pos, .int .i64 x.value] 78) := ⟨_, rfl⟩
   obtain ⟨X9, hX9⟩ : ∃ X9, X9 = wr.heap.size := ⟨_, rfl⟩
   have hbA : Below wr.heap.size wr w0 := by rw [hw0]; exact below_alloc wr _
   have hx9 : w0.heap[X9]? = some (.cells #[.string x.player, .string x.pos, .int .i64 x.value] 78 (0, 0)) := by rw [hw0, hX9]; exact heap_alloc_new wr _
   have hbw0 := below_step hb hbA; have HX9 := Lib.hid hx9; have HOl1 := HOl.out k 0; have HO1 := Lib.hid (own_belowG Hown.out hbA); generalize overR f ps (xs.take k) = C0 at HO1 Hst HOl1
   clear hcell q0 q1 q2 hx Hown hx9; go_upto_region 5 with fail
   rw [← hw0, ← hX9]; clear hw0 hX9 hbA p0 p1 p2 hb; go_wp2_with fail
   go_loopw [7, 23] (fun q i wr => ∃ j : Nat, j ≤ np ∧ i = .int .i64 j ∧ Hid (OwnOv wr w.heap.size q (C0 ++ overX f x (ps.take j))) ∧ Hid (wr.heap[X9]? = some (.cells #[.string x.player, .string x.pos, .int .i64 x.value] 78 (0, 0))) ∧ Below w.heap.size w wr) (fun _ i _ => np - (intOf i).toNat)
   case atStart => exact ⟨0, Nat.zero_le _, rfl, Lib.hid (by rw [show overX f x (ps.take 0) = [] by simp [overX], List.append_nil]; exact HO1.out), HX9, hbw0⟩
   case round =>
    clear HO1 HX9 hbw0; obtain ⟨j, hj, rfl, Hown, HX9r, hb⟩ := hrel; by_cases hjt : j < np
    ·obtain ⟨y, hy⟩ : ∃ y, ps[j]? = some y := ⟨_, List.getElem?_eq_getElem (by rw [Hnp.out]; exact hjt)⟩
     have hyL := List.mem_of_getElem? hy; obtain ⟨lv, hlv⟩ : ∃ lv, f y = lv := ⟨_, rfl⟩
     have hfy := (HNV.out y hyL).trans hlv; obtain ⟨hl1, hl2⟩ := Hff.out y hyL; have hst2 := overX_snoc (f := f) (x := x) hy; rw [hlv] at hl1 hl2 hst2
     have Hst2 := Lib.hid hst2; rcases pl_at HP.out with ⟨_, h⟩ | ⟨pg, po, pcap, e, _, hpg, _, hpcell⟩
     ·rw [h] at hy; simp at hy
     simp only [Value.slice.injEq] at e
     obtain ⟨rfl, -, rfl⟩ := e; obtain ⟨q0, q1⟩ := hpcell j y hy; have p0 := below_cell hb q0; have p1 := below_cell hb q1; obtain ⟨wA, hwA⟩ : ∃ wA, wA = wr.alloc (.cells #[.string y.pos, .int .i64 y.many] 125) := ⟨_, rfl⟩
     obtain ⟨X11, hX11⟩ : ∃ X11, X11 = wr.heap.size := ⟨_, rfl⟩
     have hbA : Below wr.heap.size wr wA := by rw [hwA]; exact below_alloc wr _
     have hx11 : wA.heap[X11]? = some (.cells #[.string y.pos, .int .i64 y.many] 125 (0, 0)) := by rw [hwA, hX11]; exact heap_alloc_new wr _
     have hbw := below_step hb hbA; have hwl : IntKind.i64.wrap (x.value - lv) = x.value - lv := IntWalk.i64_in _ (by omega)
     have HX9 := Lib.hid (cells_later HX9r.out hbA); have HX11 := Lib.hid hx11; have HO2 := Lib.hid (own_belowG Hown.out hbA); have x0 := cell_at HX9.out 0 rfl; have x1 := cell_at HX9.out 1 rfl; have x2 := cell_at HX9.out 2 rfl; have y0 := cell_at hx11 0 rfl; have y1 := cell_at hx11 1 rfl
     have hcl : (C0 ++ overX f x (ps.take j)).length ≤ 130 := by
      rw [List.length_append]; have h1 := overX_len f x (ps.take j); have h2 : (ps.take j).length ≤ 10 := by rw [List.length_take]; omega
      omega
     generalize hC1 : C0 ++ overX f x (ps.take j) = C1 at HO2 hcl
     have HC1 := Lib.hid hC1; clear hpcell q0 q1 hy Hown HX9r hlv hst2 hC1; go_upto_region 8 with fail
     rw [← hwA, ← hX11]; clear hwA hX11 hbA p0 p1 hb hx11; cases hq : beqS x.pos y.pos
     ·have e1 : (x.pos.toList == y.pos.toList) = false := hq
      have Hst3 := Lib.hid (show C0 ++ overX f x (ps.take (j + 1)) = C1 by rw [Hst2.out, hq, ← HC1.out]; simp)
      clear hq; go_wp2_with fail
      go_roundw
      case rel => exact ⟨j + 1, by omega, by go_num, Lib.hid (by rw [Hst3.out]; exact HO2.out), HX9, hbw⟩
      case measure => simp [intOf]; omega
     ·have e1 : (x.pos.toList == y.pos.toList) = true := hq
      have Hst3 := Lib.hid (show C0 ++ overX f x (ps.take (j + 1)) = C1 ++ [⟨x.player, x.value - lv, 0⟩] by rw [Hst2.out, hq, ← HC1.out]; simp)
      have HS := Lib.hid (show ∀ w', Below wA.heap.size wA w' → (True ∧ w'.cell? ⟨X9, 0, none⟩ = some (.string x.player) ∧ w'.cell? ⟨X9, 2, none⟩ = some (.int .i64 x.value) ∧ w'.cell? ⟨X11, 0, none⟩ = some (.string y.pos) ∧ w'.cell? ⟨X11, 1, none⟩ = some (.int .i64 y.many)) from fun w' hb => ⟨trivial, below_cell hb x0, below_cell hb x2, below_cell hb y0, below_cell hb y1⟩)
      have hbd := (Below.refl wA.heap.size wA).drew; clear hq; go_upto_region 9 with fail
      clear x0 x1 x2 y0 y1; show Code.wp _ (Code.region 9 o40_9 true) _ _ _
      refine region_start 14 (fun w' => True ∧ w'.cell? ⟨X9, 0, none⟩ = some (.string x.player) ∧ w'.cell? ⟨X9, 2, none⟩ = some (.int .i64 x.value) ∧ w'.cell? ⟨X11, 0, none⟩ = some (.string y.pos) ∧ w'.cell? ⟨X11, 1, none⟩ = some (.int .i64 y.many)) (by kernel_rfl) rfl ?_ (fun hHeld => ?_)
      ·(exact HS.out _ (by first | exact hbd | exact hb07 | exact below_step hb07 (below_alloc _ _)))
      refine take_to 0 32 (bQ 14 1) (v := ?_) o40_9_0 rfl o40_9_ns (by kernel_rfl) (by kernel_rfl) (fun _ _ _ h => h) (by rfl) ?y0q (by assumption) ?_
      case y0q => intro w h; (try dsimp only at h); go_simp; try with_reducible rfl
      simp only [sE0, sE1]; refine take_to 1 33 (bQ 14 3) (v := ?_) o40_9_1 rfl o40_9_ns (by kernel_rfl) (by kernel_rfl) (fun _ _ _ h => h) (by rfl) ?y1q (by assumption) ?_
      case y1q => intro w h; (try dsimp only at h); go_simp; try with_reducible rfl
      simp only [sE0, sE1]; refine take_to 2 34 (bQ 14 7) (v := ?_) o40_9_2 rfl o40_9_ns (by kernel_rfl) (by kernel_rfl) (fun _ _ _ h => h) (by rfl) ?y2q (by assumption) ?_
      case y2q => intro w h; (try dsimp only at h); go_simp; try with_reducible rfl
      simp only [sE0, sE1]; refine take_to 3 35 (bQ 14 15) (v := ?_) o40_9_3 rfl o40_9_ns (by kernel_rfl) (by kernel_rfl) (fun _ _ _ h => h) (by rfl) ?y3q (by assumption) ?_
      case y3q => intro w h; (try dsimp only at h); go_simp; try with_reducible rfl
      simp only [sE0, sE1]; refine take_to 4 36 (bQ 14 31) (v := ?_) o40_9_4 rfl o40_9_ns (by kernel_rfl) (by kernel_rfl) (fun _ _ _ h => h) (by rfl) ?y4q (by assumption) ?_
      case y4q => intro w h; (try dsimp only at h); go_simp; try with_reducible rfl
      simp only [sE0, sE1]; refine take_to 5 37 (bQ 14 63) (v := ?_) o40_9_5 rfl o40_9_ns (by kernel_rfl) (by kernel_rfl) (fun _ _ _ h => h) (by rfl) ?y5q (by assumption) ?_
      case y5q => intro w h; (try dsimp only at h); go_simp; try with_reducible rfl
      simp only [sE0, sE1]; refine take_to 6 38 (bQ 14 127) (v := ?_) o40_9_6 rfl o40_9_ns (by kernel_rfl) (by kernel_rfl) (fun _ _ _ h => h) (by rfl) ?y6q (by assumption) ?_
      case y6q => intro w h; (try dsimp only at h); go_simp; try with_reducible rfl
      simp only [sE0, sE1]; refine take_to 7 39 (bQ 14 255) (v := ?_) o40_9_7 rfl o40_9_ns (by kernel_rfl) (by kernel_rfl) (fun _ _ _ h => h) (by rfl) ?y7q (by assumption) ?_
      case y7q => intro w h; (try dsimp only at h); go_simp; try with_reducible rfl
      simp only [sE0, sE1]; refine run_to 8 (bQ 14 511) o40_9_8 (by kernel_rfl) (by kernel_rfl) (by rfl) (fun K hK => ?_)
      go_simp; refine (DL.out y hyL _ (below_step hbw hbd)).mono ?_; rintro e w7 ⟨rfl, hb7⟩; have hb07 := below_step hbd hb7; rw [hfy]; go_wp2_with fail
      refine hK.out _ _ ?_ (fun hHeld => ?_)
      ·(exact HS.out _ (by first | exact hbd | exact hb07 | exact below_step hb07 (below_alloc _ _)))
      clear hK K; try simp only [Act.put, sEt, sE0, sE1]
      refine take_to 9 41 (bQ 14 1023) (v := .int .i64 (x.value - lv)) o40_9_9 rfl o40_9_ns (by kernel_rfl) (by kernel_rfl) (fun _ _ _ h => h) (by rfl) ?y9q (by assumption) ?_
      case y9q =>
       intro w hSw; try dsimp only at hSw
       go_simp; try rw [hwl]
       try with_reducible rfl
      simp only [sE0, sE1]; refine run_to 10 (bQ 14 2047) o40_9_10 (by kernel_rfl) (by kernel_rfl) (by rfl) (fun K hK => ?_)
      go_simp; refine hK.out _ _ ?_ (fun hHeld => ?_)
      ·(exact HS.out _ (by first | exact hbd | exact hb07 | exact below_step hb07 (below_alloc _ _)))
      clear hK K; try simp only [Act.put, sEt, sE0, sE1]
      refine run_to 11 (bQ 14 4095) o40_9_11 (by kernel_rfl) (by kernel_rfl) (by rfl) (fun K hK => ?_)
      go_simp; refine hK.out _ _ ?_ (fun hHeld => ?_)
      ·(exact HS.out _ (by first | exact hbd | exact hb07 | exact below_step hb07 (below_alloc _ _)))
      clear hK K; try simp only [Act.put, sEt, sE0, sE1]
      refine run_to 12 (bQ 14 8191) o40_9_12 (by kernel_rfl) (by kernel_rfl) (by rfl) (fun K hK => ?_)
      have hownB := World.ownsRow.alloc (own_belowG HO2.out hb07) (.cells #[.string x.player, .int .i64 (x.value - lv), .int .i64 0] 74); refine wp_append_at _ (.tmp 32) (.tmp 43) 62 rfl w.heap.size 74 i0 (.agg #[.string ⟨#[]⟩, .int .i64 0, .int .i64 0]) 3 32 Tryz.underlying62 hi hz0 hz1 hz2 rfl (by decide) _ C1.length _ rfl hownB _ 1 1 [.string x.player, .int .i64 (x.value - lv), .int .i64 0] rfl rfl (cells_newG w7 [.string x.player, .int .i64 (x.value - lv), .int .i64 0] _) (by simp [Value.oneCell']) (by unfold maxLen; omega) (by omega) (by have h1 := hb07.size; have h2 := hbw.size; simp; omega) ?_
      intro v2 w2 hown2 hgrow; have hb08 := below_step hb07 (below_alloc w7 (.cells #[.string x.player, .int .i64 (x.value - lv), .int .i64 0] 74)); have hbF := (below_step hbw hb08).grown hgrow (by have h1 := hb08.size; have h2 := hbw.size; omega) fun r hr => (own_block hownB r hr).1
      have hx9 := cells_later HX9.out hb08; have hx11 := cells_later HX11.out hb08; have hx9E := (hgrow.block X9 (lt_of_heap hx9) (fun e => by obtain ⟨_, cur, hc⟩ := own_block hownB _ e.symm; rw [hx9] at hc; simp at hc)).trans hx9
      have hx11E := (hgrow.block X11 (lt_of_heap hx11) (fun e => by obtain ⟨_, cur, hc⟩ := own_block hownB _ e.symm; rw [hx11] at hc; simp at hc)).trans hx11
      refine hK.out _ _ ?_ (fun hHeld => ?_)
      ·(exact ⟨trivial, cell_at hx9E 0 rfl, cell_at hx9E 2 rfl, cell_at hx11E 0 rfl, cell_at hx11E 1 rfl⟩)
      clear hK K; try simp only [Act.put, sEt, sE0, sE1]
      refine take_to 13 7 (bQ 14 16383) (v := ?_) o40_9_13 rfl o40_9_ns (by kernel_rfl) (by kernel_rfl) (fun _ _ _ h => h) (by rfl) ?y13q (by assumption) ?_
      case y13q => intro w h; (try dsimp only at h); go_simp; try with_reducible rfl
      simp only [sE0, sE1]; refine wpAnyH_done (by kernel_rfl) ?_ _
      have HO5 : Hid (OwnOv w2 w.heap.size v2 (C0 ++ overX f x (ps.take (j + 1)))) := Lib.hid (by
       rw [Hst3.out]; unfold OwnOv
       have e : ((C1 ++ [(⟨x.player, x.value - lv, 0⟩ : OvD)]).map ovRow).flatten = (C1.map ovRow).flatten ++ [.string x.player, .int .i64 (x.value - lv), .int .i64 0] := by simp [ovRow]
       rw [e, List.length_append, List.length_singleton]; exact hown2)
      have HX9E := Lib.hid hx9E; clear hgrow hown2 hownB hHeld HS hx9 hx11 hx11E hx9E; go_wp2_with fail
      go_roundw
      case rel => exact ⟨j + 1, by omega, by go_num, HO5, HX9E, hbF⟩
      case measure => simp [intOf]; omega
    ·obtain rfl : j = np := by omega
     rw [Hallp.out, ← Hst.out] at Hown
     clear HX9r; go_wp2_with fail
     go_roundw
     case rel => exact ⟨k + 1, by omega, by go_num, Hown, hb⟩
     case measure => simp [intOf]; omega
  ·obtain rfl : k = n := by omega
   rw [Hall.out] at Hown
   have hol := HOall.out; have hfr := fresh_ownOv Hown.out; generalize overR f ps xs = OP at hfr hol HRES
   clear Hown; rcases hfr with ⟨rfl, rfl⟩ | ⟨g, off, cc, rfl, hr, hcc, hl⟩
   ·have e0 : insL cmpO ([] : List OvD) = [] := List.eq_nil_of_length_eq_zero (insL_len cmpO [])
    have hnil := Lib.hid (show RES = [] by rw [← HRES.out, e0]; rfl)
    clear HRES; go_wp2_with fail
    refine (sortStableOv0_calls _ _ _).mono ?_; rintro e w2 ⟨rfl, rfl⟩; go_wp2_with fail
    refine wp_loop_rounds 1 ?_; rw [rounds_succ]; go_wp2_with fail
    go_ret
    exact ⟨_, .inl ⟨rfl, hnil.out⟩, rfl, hb⟩
   ·have DS := Lib.hid (sortStableOv_calls cmpO 102 #[] g off cc OP wr hr (by omega) (enters_of Tryz.func102 (by kernel_rfl) rfl) fun W x y _ => worthsFor1_calls x y W)
    have hSl := insL_len cmpO OP; unfold SortedOv at DS
    generalize insL cmpO OP = SL at DS hSl HRES
    obtain ⟨m, hmm⟩ : ∃ m, SL.length = m := ⟨_, rfl⟩
    have Hm := Lib.hid hmm; rw [hmm] at HRES
    rw [← hSl, hmm] at DS hcc hol ⊢
    have Hrk := Lib.hid (fun (i : Nat) (x : OvD) (h : SL[i]? = some x) => show rkC SL i = 1 + (cntW SL x.worth : Int) by unfold rkC; rw [ovAt_some h])
    have HallS := Lib.hid (show SL.take m = SL by rw [← hmm, List.take_length])
    generalize rkC SL = rk at HRES Hrk
    clear hr hSl hmm; go_wp2_with fail
    refine DS.out.mono ?_; rintro e w2 ⟨rfl, hr2, hg2⟩; have hb2 := below_gbG hb hg2 hl; have HR0 : Hid (RowsAt w2 74 g off 3 ((rkBy rk SL 0).map ovRow)) := Lib.hid (by rw [rkBy_zero]; exact hr2)
    clear DS hg2 hr2; go_wp2_with fail
    go_loopw [51] (fun i wx => ∃ k : Nat, k ≤ m ∧ i = .int .i64 k ∧ Hid (RowsAt wx 74 g off 3 ((rkBy rk SL k).map ovRow)) ∧ Below w.heap.size w wx) (fun i _ => m - (intOf i).toNat)
    case atStart => exact ⟨0, Nat.zero_le _, rfl, HR0, hb2⟩
    case round =>
     clear HR0 hb2; obtain ⟨i, hi', rfl, HR, hb⟩ := hrel; by_cases hlt : i < m
     ·obtain ⟨x, hx⟩ : ∃ x, SL[i]? = some x := ⟨_, List.getElem?_eq_getElem (by rw [Hm.out]; exact hlt)⟩
      have HXS := Lib.hid hx; have hxk : (rkBy rk SL i)[i]? = some x := by rw [rkBy_at i hx, if_neg (Nat.lt_irrefl i)]
      have hfz := fun o => HR.out.free o
      obtain ⟨c0, c1, c2⟩ := ov_cells HR.out hxk; obtain ⟨W2, hW2⟩ : ∃ W2, W2 = wr.setCell ⟨g, off + i * 3 + 2, none⟩ (.int .i64 1) := ⟨_, rfl⟩
      have hr2 := ov_rank HR.out hxk 1; have hg2 : wr.grownBy W2 (some g) := by rw [hW2]; exact gb_setCell _ _ _ _
      rw [← hW2] at hr2
      have hb2 := below_gbG hb hg2 hl; have HR2 : Hid (RowsAt W2 74 g off 3 (((rkBy rk SL i).set i (⟨x.player, x.worth, 1 + (cntW (SL.take 0) x.worth : Int)⟩ : OvD)).map ovRow)) := Lib.hid (by simpa [cntW] using hr2)
      go_upto_region 17 with fail
      rw [← hW2]; clear hW2 hfz c0 c1 c2 hg2 hb hr2 HR hxk hx; go_wp2_with fail
      go_loopw [60] (fun q wx => ∃ j : Nat, j ≤ m ∧ q = .int .i64 j ∧ Hid (RowsAt wx 74 g off 3 (((rkBy rk SL i).set i (⟨x.player, x.worth, 1 + (cntW (SL.take j) x.worth : Int)⟩ : OvD)).map ovRow)) ∧ Below w.heap.size w wx) (fun q _ => m - (intOf q).toNat)
      case atStart => exact ⟨0, Nat.zero_le _, rfl, HR2, hb2⟩
      case round =>
       clear HR2 hb2; obtain ⟨j, hj, rfl, HR, hb⟩ := hrel; by_cases hjt : j < m
       ·obtain ⟨y, hy⟩ : ∃ y, SL[j]? = some y := ⟨_, List.getElem?_eq_getElem (by rw [Hm.out]; exact hjt)⟩
        have Hst := Lib.hid (cntW_snoc x.worth hy); have hcl : cntW (SL.take j) x.worth ≤ 12 := Nat.le_trans (cntW_le _ _) (by rw [List.length_take]; omega)
        obtain ⟨z, hz, hzw⟩ := rkBy_worth (r := rk) (1 + (cntW (SL.take j) x.worth : Int)) HXS.out hy; have hxs : ((rkBy rk SL i).set i (⟨x.player, x.worth, 1 + (cntW (SL.take j) x.worth : Int)⟩ : OvD))[i]? = some ⟨x.player, x.worth, 1 + (cntW (SL.take j) x.worth : Int)⟩ := List.getElem?_set_self (by rw [rkBy_len]; exact (List.getElem?_eq_some_iff.1 HXS.out).1)
        generalize cntW (SL.take j) x.worth = cn at HR Hst hcl hz hxs
        obtain ⟨c0, c1, c2⟩ := ov_cells HR.out hz; obtain ⟨d0, d1, d2⟩ := ov_cells HR.out hxs; rw [hzw] at c1
        obtain ⟨wA, hwA⟩ : ∃ wA, wA = wr.alloc (.cells #[.string z.player, .int .i64 y.worth, .int .i64 z.rank] 74) := ⟨_, rfl⟩
        obtain ⟨X14, hX14⟩ : ∃ X14, X14 = wr.heap.size := ⟨_, rfl⟩
        have hbA : Below wr.heap.size wr wA := by rw [hwA]; exact below_alloc wr _
        have hx14 : wA.heap[X14]? = some (.cells #[.string z.player, .int .i64 y.worth, .int .i64 z.rank] 74 (0, 0)) := by rw [hwA, hX14]; exact heap_alloc_new wr _
        have hbw := below_step hb hbA; have HRA := Lib.hid (HR.out.below hbA); have x1 := cell_at hx14 1 rfl; have f1 := below_cell hbA d1; have HS := Lib.hid (show ∀ w', Below wA.heap.size wA w' → (True ∧ w'.cell? ⟨X14, 1, none⟩ = some (.int .i64 y.worth) ∧ w'.cell? ⟨g, off + i * 3 + 1, none⟩ = some (.int .i64 x.worth)) from fun w' hb => ⟨trivial, below_cell hb x1, below_cell hb f1⟩)
        have hbd := (Below.refl wA.heap.size wA).drew; clear hy hz hzw; go_upto_region 20 with fail
        rw [← hwA, ← hX14]; clear hwA hX14 hbA c0 c1 c2 d0 d1 d2 HR hb hx14; show Code.wp _ (Code.region 20 o40_20 true) _ _ _
        refine region_start 8 (fun w' => True ∧ w'.cell? ⟨X14, 1, none⟩ = some (.int .i64 y.worth) ∧ w'.cell? ⟨g, off + i * 3 + 1, none⟩ = some (.int .i64 x.worth)) (by kernel_rfl) rfl ?_ (fun hHeld => ?_)
        ·(exact HS.out _ hbd)
        refine take_to 0 64 (bQ 8 1) (v := ?_) o40_20_0 rfl o40_20_ns (by kernel_rfl) (by kernel_rfl) (fun _ _ _ h => h) (by rfl) ?y0w (by assumption) ?_
        case y0w => intro w h; (try dsimp only at h); go_simp; try with_reducible rfl
        simp only [sE0, sE1]; refine take_to 1 65 (bQ 8 3) (v := ?_) o40_20_1 rfl o40_20_ns (by kernel_rfl) (by kernel_rfl) (fun _ _ _ h => h) (by rfl) ?y1w (by assumption) ?_
        case y1w => intro w h; (try dsimp only at h); go_simp; try with_reducible rfl
        simp only [sE0, sE1]; refine take_to 2 66 (bQ 8 7) (v := ?_) o40_20_2 rfl o40_20_ns (by kernel_rfl) (by kernel_rfl) (fun _ _ _ h => h) (by rfl) ?y2w (by assumption) ?_
        case y2w => intro w h; (try dsimp only at h); go_simp; try with_reducible rfl
        simp only [sE0, sE1]; refine take_to 3 67 (bQ 8 15) (v := ?_) o40_20_3 rfl o40_20_ns (by kernel_rfl) (by kernel_rfl) (fun _ _ _ h => h) (by rfl) ?y3w (by assumption) ?_
        case y3w => intro w h; (try dsimp only at h); go_simp; try with_reducible rfl
        simp only [sE0, sE1]; refine take_to 4 68 (bQ 8 31) (v := ?_) o40_20_4 rfl o40_20_ns (by kernel_rfl) (by kernel_rfl) (fun _ _ _ h => h) (by rfl) ?y4w (by assumption) ?_
        case y4w => intro w h; (try dsimp only at h); go_simp; try with_reducible rfl
        simp only [sE0, sE1]; refine take_to 5 69 (bQ 8 63) (v := ?_) o40_20_5 rfl o40_20_ns (by kernel_rfl) (by kernel_rfl) (fun _ _ _ h => h) (by rfl) ?y5w (by assumption) ?_
        case y5w => intro w h; (try dsimp only at h); go_simp; try with_reducible rfl
        simp only [sE0, sE1]; refine take_to 6 70 (bQ 8 127) (v := ?_) o40_20_6 rfl o40_20_ns (by kernel_rfl) (by kernel_rfl) (fun _ _ _ h => h) (by rfl) ?y6w (by assumption) ?_
        case y6w => intro w h; (try dsimp only at h); go_simp; try with_reducible rfl
        simp only [sE0, sE1]; refine take_to 7 71 (bQ 8 255) (v := ?_) o40_20_7 rfl o40_20_ns (by kernel_rfl) (by kernel_rfl) (fun _ _ _ h => h) (by rfl) ?y7w (by assumption) ?_
        case y7w => intro w h; (try dsimp only at h); go_simp; try with_reducible rfl
        simp only [sE0, sE1]; refine wpAnyH_done (by kernel_rfl) ?_ _
        have hra := HRA.out.below hbd; have hbe := below_step hbw hbd; clear HS hbd hHeld HRA hbw x1 f1; generalize wA.drew = W3 at hra hbe ⊢
        by_cases hw : x.worth < y.worth
        ·have e1 : decide (x.worth < y.worth) = true := decide_eq_true hw
         have Hst2 := Lib.hid (show cntW (SL.take (j + 1)) x.worth = cn + 1 by rw [Hst.out, if_pos hw])
         have hfz3 := fun o => hra.free o
         obtain ⟨g0, g1, g2⟩ := ov_cells hra hxs; have hr4 := ov_rank hra hxs (1 + ((cn : Int) + 1)); have hg4 := gb_setCell W3 g (off + i * 3 + 2) (.int .i64 (1 + ((cn : Int) + 1))); have hb4 := below_gbG hbe hg4 hl; rw [List.set_set] at hr4
         have HRn := Lib.hid (show RowsAt (W3.setCell ⟨g, off + i * 3 + 2, none⟩ (.int .i64 (1 + ((cn : Int) + 1)))) 74 g off 3 (((rkBy rk SL i).set i (⟨x.player, x.worth, 1 + (cntW (SL.take (j + 1)) x.worth : Int)⟩ : OvD)).map ovRow) by
          rw [show ((cntW (SL.take (j + 1)) x.worth : Nat) : Int) = (cn : Int) + 1 by rw [Hst2.out]; omega]; exact hr4)
         clear hr4 hg4 hra hbe hxs; go_wp2_with fail
         go_roundw
         case rel => exact ⟨j + 1, by omega, by go_num, HRn, hb4⟩
         case measure => simp [intOf]; omega
        ·have e1 : decide (x.worth < y.worth) = false := decide_eq_false hw
         have Hst2 := Lib.hid (show cntW (SL.take (j + 1)) x.worth = cn by rw [Hst.out, if_neg hw]; rfl)
         have HRn := Lib.hid hra; rw [← Hst2.out] at HRn
         clear hra hxs; go_wp2_with fail
         go_roundw
         case rel => exact ⟨j + 1, by omega, by go_num, HRn, hbe⟩
         case measure => simp [intOf]; omega
       ·obtain rfl : j = m := by omega
        have HRn := Lib.hid (show RowsAt wr 74 g off 3 ((rkBy rk SL (i + 1)).map ovRow) by have h := HR.out; rw [HallS.out] at h; rw [← rkBy_succ HXS.out, Hrk.out i x HXS.out]; exact h)
        clear HR; go_wp2_with fail
        go_roundw
        case rel => exact ⟨i + 1, by omega, by go_num, HRn, hb⟩
        case measure => simp [intOf]; omega
     ·obtain rfl : i = m := by omega
      have HR2 := HR; clear HR; go_wp2_with fail
      go_ret
      exact ⟨_, .inr ⟨g, off, cc, by rw [← HRES.out, rkBy_len, Hm.out]; rfl, by rw [← HRES.out]; exact HR2.out, by rw [← HRES.out, rkBy_len, Hm.out]; exact hcc, hl⟩, rfl, hb⟩
end Go.Proofs.YtddnnjblpgfjeaaGreatDoor
/- What remains, and the order by it. -/
namespace Go.Proofs.YtddnnjblpgfjeaaGreatDoor
open Go.RowKit

/-- The cells that the closures hold on to. -/
def DivAt (w : World) (X1 X2 X3 : Nat) (N : Int) (g off c : Nat) (l : List OvD) (S : Int) : Prop :=
 w.cell? ⟨X1, 0, none⟩ = some (.int .i64 N) ∧ w.cell? ⟨X2, 0, none⟩ = some (.slice (some ⟨g, off, none⟩) l.length c) ∧ w.cell? ⟨X3, 0, none⟩ = some (.int .i64 S) ∧
  ∀ (i : Nat) (x : OvD), l[i]? = some x → w.cell? ⟨g, off + i * 3 + 1, none⟩ = some (.int .i64 x.worth)
theorem DivAt.kept {w w' : World} {X1 X2 X3 g off c B : Nat} {N S : Int} {l : List OvD} (h : DivAt w X1 X2 X3 N g off c l S) (hg : w.grownBy w' (some B)) (h1 : X1 ≠ B) (h2 : X2 ≠ B) (h3 : X3 ≠ B) (h4 : g ≠ B) : DivAt w' X1 X2 X3 N g off c l S :=
 ⟨gb_cell hg h.1 h1, gb_cell hg h.2.1 h2, gb_cell hg h.2.2.1 h3, fun i x hx => gb_cell hg (h.2.2.2 i x hx) h4⟩
theorem DivAt.drew {w : World} {X1 X2 X3 g off c : Nat} {N S : Int} {l : List OvD} (h : DivAt w X1 X2 X3 N g off c l S) : DivAt w.drew X1 X2 X3 N g off c l S := h
def remV (N S : Int) (l : List OvD) (i : Nat) : Int := (N * (ovAt l i).worth).tmod S
theorem mulB {N v : Int} (hN0 : 0 ≤ N) (hN1 : N ≤ 100000000) (hv0 : 0 < v) (hv1 : v ≤ 10000000) : 0 ≤ N * v ∧ N * v ≤ 1000000000000000 := by
 have h1 := Int.mul_nonneg hN0 (Int.le_of_lt hv0)
 have h2 := Int.mul_le_mul hN1 hv1 (Int.le_of_lt hv0) (by omega)
 omega
def o143_1 : Array Go.Oper := #[
 ⟨some 6, .load 3 (.tmp 1), 3, "worth.go:113", #[], none⟩,
 ⟨some 7, .load 62 (.tmp 2), 62, "worth.go:113", #[], none⟩,
 ⟨some 8, .move (.tmp 0), 3, "worth.go:113", #[], none⟩,
 ⟨some 9, .indexAddr 62 (.tmp 7) (.tmp 8), 0, "worth.go:113", #[⟨1, .data⟩, ⟨2, .data⟩], none⟩,
 ⟨some 10, .fieldAddr 74 (.tmp 9) 1, 0, "worth.go:113", #[⟨3, .data⟩], none⟩,
 ⟨some 11, .load 3 (.tmp 10), 3, "worth.go:113", #[⟨4, .data⟩], none⟩,
 ⟨some 12, .binOp .mul 3 (.tmp 6) (.tmp 11) 3, 3, "worth.go:113", #[⟨0, .data⟩, ⟨5, .data⟩], none⟩,
 ⟨some 13, .load 3 (.tmp 3), 3, "worth.go:113", #[], none⟩,
 ⟨some 14, .binOp .rem 3 (.tmp 12) (.tmp 13) 3, 3, "worth.go:113", #[⟨6, .data⟩, ⟨7, .data⟩], none⟩,
 ⟨some 5, .assign (.tmp 14), 3, "worth.go:113", #[⟨8, .data⟩, ⟨0, .phase⟩, ⟨1, .phase⟩, ⟨2, .phase⟩, ⟨3, .phase⟩, ⟨4, .phase⟩, ⟨5, .phase⟩, ⟨6, .phase⟩, ⟨7, .phase⟩, ⟨8, .phase⟩], none⟩]
theorem o143_1_0 : o143_1[0]? = some (⟨some 6, .load 3 (.tmp 1), 3, "worth.go:113", #[], none⟩ : Go.Oper) := rfl
theorem o143_1_1 : o143_1[1]? = some (⟨some 7, .load 62 (.tmp 2), 62, "worth.go:113", #[], none⟩ : Go.Oper) := rfl
theorem o143_1_2 : o143_1[2]? = some (⟨some 8, .move (.tmp 0), 3, "worth.go:113", #[], none⟩ : Go.Oper) := rfl
theorem o143_1_3 : o143_1[3]? = some (⟨some 9, .indexAddr 62 (.tmp 7) (.tmp 8), 0, "worth.go:113", #[⟨1, .data⟩, ⟨2, .data⟩], none⟩ : Go.Oper) := rfl
theorem o143_1_4 : o143_1[4]? = some (⟨some 10, .fieldAddr 74 (.tmp 9) 1, 0, "worth.go:113", #[⟨3, .data⟩], none⟩ : Go.Oper) := rfl
theorem o143_1_5 : o143_1[5]? = some (⟨some 11, .load 3 (.tmp 10), 3, "worth.go:113", #[⟨4, .data⟩], none⟩ : Go.Oper) := rfl
theorem o143_1_6 : o143_1[6]? = some (⟨some 12, .binOp .mul 3 (.tmp 6) (.tmp 11) 3, 3, "worth.go:113", #[⟨0, .data⟩, ⟨5, .data⟩], none⟩ : Go.Oper) := rfl
theorem o143_1_7 : o143_1[7]? = some (⟨some 13, .load 3 (.tmp 3), 3, "worth.go:113", #[], none⟩ : Go.Oper) := rfl
theorem o143_1_8 : o143_1[8]? = some (⟨some 14, .binOp .rem 3 (.tmp 12) (.tmp 13) 3, 3, "worth.go:113", #[⟨6, .data⟩, ⟨7, .data⟩], none⟩ : Go.Oper) := rfl
theorem o143_1_9 : o143_1[9]? = some (⟨some 5, .assign (.tmp 14), 3, "worth.go:113", #[⟨8, .data⟩, ⟨0, .phase⟩, ⟨1, .phase⟩, ⟨2, .phase⟩, ⟨3, .phase⟩, ⟨4, .phase⟩, ⟨5, .phase⟩, ⟨6, .phase⟩, ⟨7, .phase⟩, ⟨8, .phase⟩], none⟩ : Go.Oper) := rfl
theorem o143_1_ns : Go.Region.noSelect o143_1 = true := by kernel_rfl
def o144_1 : Array Go.Oper := #[
 ⟨some 6, .load 93 (.tmp 2), 93, "worth.go:114", #[], none⟩,
 ⟨some 7, .move (.tmp 1), 3, "worth.go:114", #[], none⟩,
 ⟨some 8, .call { callee := .value (.tmp 6), args := #[.tmp 7], argTypes := #[3] }, 3, "worth.go:114", #[⟨0, .data⟩, ⟨1, .data⟩], none⟩,
 ⟨some 9, .load 93 (.tmp 2), 93, "worth.go:114", #[], none⟩,
 ⟨some 10, .move (.tmp 0), 3, "worth.go:114", #[], none⟩,
 ⟨some 11, .call { callee := .value (.tmp 9), args := #[.tmp 10], argTypes := #[3] }, 3, "worth.go:114", #[⟨3, .data⟩, ⟨4, .data⟩, ⟨2, .chain⟩], none⟩,
 ⟨some 12, .call { callee := .value (.func 67), args := #[.tmp 8, .tmp 11], argTypes := #[3, 3] }, 3, "worth.go:114", #[⟨2, .data⟩, ⟨5, .data⟩, ⟨5, .chain⟩], none⟩,
 ⟨some 5, .assign (.tmp 12), 3, "worth.go:114", #[⟨6, .data⟩, ⟨6, .chain⟩, ⟨0, .phase⟩, ⟨1, .phase⟩, ⟨2, .phase⟩, ⟨3, .phase⟩, ⟨4, .phase⟩, ⟨5, .phase⟩, ⟨6, .phase⟩], none⟩]
theorem o144_1_0 : o144_1[0]? = some (⟨some 6, .load 93 (.tmp 2), 93, "worth.go:114", #[], none⟩ : Go.Oper) := rfl
theorem o144_1_1 : o144_1[1]? = some (⟨some 7, .move (.tmp 1), 3, "worth.go:114", #[], none⟩ : Go.Oper) := rfl
theorem o144_1_2 : o144_1[2]? = some (⟨some 8, .call { callee := .value (.tmp 6), args := #[.tmp 7], argTypes := #[3] }, 3, "worth.go:114", #[⟨0, .data⟩, ⟨1, .data⟩], none⟩ : Go.Oper) := rfl
theorem o144_1_3 : o144_1[3]? = some (⟨some 9, .load 93 (.tmp 2), 93, "worth.go:114", #[], none⟩ : Go.Oper) := rfl
theorem o144_1_4 : o144_1[4]? = some (⟨some 10, .move (.tmp 0), 3, "worth.go:114", #[], none⟩ : Go.Oper) := rfl
theorem o144_1_5 : o144_1[5]? = some (⟨some 11, .call { callee := .value (.tmp 9), args := #[.tmp 10], argTypes := #[3] }, 3, "worth.go:114", #[⟨3, .data⟩, ⟨4, .data⟩, ⟨2, .chain⟩], none⟩ : Go.Oper) := rfl
theorem o144_1_6 : o144_1[6]? = some (⟨some 12, .call { callee := .value (.func 67), args := #[.tmp 8, .tmp 11], argTypes := #[3, 3] }, 3, "worth.go:114", #[⟨2, .data⟩, ⟨5, .data⟩, ⟨5, .chain⟩], none⟩ : Go.Oper) := rfl
theorem o144_1_7 : o144_1[7]? = some (⟨some 5, .assign (.tmp 12), 3, "worth.go:114", #[⟨6, .data⟩, ⟨6, .chain⟩, ⟨0, .phase⟩, ⟨1, .phase⟩, ⟨2, .phase⟩, ⟨3, .phase⟩, ⟨4, .phase⟩, ⟨5, .phase⟩, ⟨6, .phase⟩], none⟩ : Go.Oper) := rfl
theorem o144_1_ns : Go.Region.noSelect o144_1 = true := by kernel_rfl
def o99_1 : Array Go.Oper := #[
 ⟨some 8, .load 3 (.tmp 2), 3, "values.go:115", #[], none⟩,
 ⟨some 9, .load 62 (.tmp 3), 62, "values.go:115", #[], none⟩,
 ⟨some 10, .move (.tmp 1), 3, "values.go:115", #[], none⟩,
 ⟨some 11, .indexAddr 62 (.tmp 9) (.tmp 10), 0, "values.go:115", #[⟨1, .data⟩, ⟨2, .data⟩], none⟩,
 ⟨some 12, .fieldAddr 74 (.tmp 11) 1, 0, "values.go:115", #[⟨3, .data⟩], none⟩,
 ⟨some 13, .load 3 (.tmp 12), 3, "values.go:115", #[⟨4, .data⟩], none⟩,
 ⟨some 14, .binOp .mul 3 (.tmp 8) (.tmp 13) 3, 3, "values.go:115", #[⟨0, .data⟩, ⟨5, .data⟩], none⟩,
 ⟨some 15, .load 3 (.tmp 4), 3, "values.go:115", #[], none⟩,
 ⟨some 16, .binOp .rem 3 (.tmp 14) (.tmp 15) 3, 3, "values.go:115", #[⟨6, .data⟩, ⟨7, .data⟩], none⟩,
 ⟨some 17, .load 3 (.tmp 2), 3, "values.go:115", #[], none⟩,
 ⟨some 18, .load 62 (.tmp 3), 62, "values.go:115", #[], none⟩,
 ⟨some 19, .move (.tmp 0), 3, "values.go:115", #[], none⟩,
 ⟨some 20, .indexAddr 62 (.tmp 18) (.tmp 19), 0, "values.go:115", #[⟨10, .data⟩, ⟨11, .data⟩], none⟩,
 ⟨some 21, .fieldAddr 74 (.tmp 20) 1, 0, "values.go:115", #[⟨12, .data⟩], none⟩,
 ⟨some 22, .load 3 (.tmp 21), 3, "values.go:115", #[⟨13, .data⟩], none⟩,
 ⟨some 23, .binOp .mul 3 (.tmp 17) (.tmp 22) 3, 3, "values.go:115", #[⟨9, .data⟩, ⟨14, .data⟩], none⟩,
 ⟨some 24, .load 3 (.tmp 4), 3, "values.go:115", #[], none⟩,
 ⟨some 25, .binOp .rem 3 (.tmp 23) (.tmp 24) 3, 3, "values.go:115", #[⟨15, .data⟩, ⟨16, .data⟩], none⟩,
 ⟨some 26, .call { callee := .value (.func 67), args := #[.tmp 16, .tmp 25], argTypes := #[3, 3] }, 3, "values.go:115", #[⟨8, .data⟩, ⟨17, .data⟩], none⟩,
 ⟨some 7, .assign (.tmp 26), 3, "values.go:115", #[⟨18, .data⟩, ⟨18, .chain⟩, ⟨0, .phase⟩, ⟨1, .phase⟩, ⟨2, .phase⟩, ⟨3, .phase⟩, ⟨4, .phase⟩, ⟨5, .phase⟩, ⟨6, .phase⟩, ⟨7, .phase⟩, ⟨8, .phase⟩, ⟨9, .phase⟩, ⟨10, .phase⟩, ⟨11, .phase⟩, ⟨12, .phase⟩, ⟨13, .phase⟩, ⟨14, .phase⟩, ⟨15, .phase⟩, ⟨16, .phase⟩, ⟨17, .phase⟩, ⟨18, .phase⟩], none⟩]
theorem o99_1_0 : o99_1[0]? = some (⟨some 8, .load 3 (.tmp 2), 3, "values.go:115", #[], none⟩ : Go.Oper) := rfl
theorem o99_1_1 : o99_1[1]? = some (⟨some 9, .load 62 (.tmp 3), 62, "values.go:115", #[], none⟩ : Go.Oper) := rfl
theorem o99_1_2 : o99_1[2]? = some (⟨some 10, .move (.tmp 1), 3, "values.go:115", #[], none⟩ : Go.Oper) := rfl
theorem o99_1_3 : o99_1[3]? = some (⟨some 11, .indexAddr 62 (.tmp 9) (.tmp 10), 0, "values.go:115", #[⟨1, .data⟩, ⟨2, .data⟩], none⟩ : Go.Oper) := rfl
theorem o99_1_4 : o99_1[4]? = some (⟨some 12, .fieldAddr 74 (.tmp 11) 1, 0, "values.go:115", #[⟨3, .data⟩], none⟩ : Go.Oper) := rfl
theorem o99_1_5 : o99_1[5]? = some (⟨some 13, .load 3 (.tmp 12), 3, "values.go:115", #[⟨4, .data⟩], none⟩ : Go.Oper) := rfl
theorem o99_1_6 : o99_1[6]? = some (⟨some 14, .binOp .mul 3 (.tmp 8) (.tmp 13) 3, 3, "values.go:115", #[⟨0, .data⟩, ⟨5, .data⟩], none⟩ : Go.Oper) := rfl
theorem o99_1_7 : o99_1[7]? = some (⟨some 15, .load 3 (.tmp 4), 3, "values.go:115", #[], none⟩ : Go.Oper) := rfl
theorem o99_1_8 : o99_1[8]? = some (⟨some 16, .binOp .rem 3 (.tmp 14) (.tmp 15) 3, 3, "values.go:115", #[⟨6, .data⟩, ⟨7, .data⟩], none⟩ : Go.Oper) := rfl
theorem o99_1_9 : o99_1[9]? = some (⟨some 17, .load 3 (.tmp 2), 3, "values.go:115", #[], none⟩ : Go.Oper) := rfl
theorem o99_1_10 : o99_1[10]? = some (⟨some 18, .load 62 (.tmp 3), 62, "values.go:115", #[], none⟩ : Go.Oper) := rfl
theorem o99_1_11 : o99_1[11]? = some (⟨some 19, .move (.tmp 0), 3, "values.go:115", #[], none⟩ : Go.Oper) := rfl
theorem o99_1_12 : o99_1[12]? = some (⟨some 20, .indexAddr 62 (.tmp 18) (.tmp 19), 0, "values.go:115", #[⟨10, .data⟩, ⟨11, .data⟩], none⟩ : Go.Oper) := rfl
theorem o99_1_13 : o99_1[13]? = some (⟨some 21, .fieldAddr 74 (.tmp 20) 1, 0, "values.go:115", #[⟨12, .data⟩], none⟩ : Go.Oper) := rfl
theorem o99_1_14 : o99_1[14]? = some (⟨some 22, .load 3 (.tmp 21), 3, "values.go:115", #[⟨13, .data⟩], none⟩ : Go.Oper) := rfl
theorem o99_1_15 : o99_1[15]? = some (⟨some 23, .binOp .mul 3 (.tmp 17) (.tmp 22) 3, 3, "values.go:115", #[⟨9, .data⟩, ⟨14, .data⟩], none⟩ : Go.Oper) := rfl
theorem o99_1_16 : o99_1[16]? = some (⟨some 24, .load 3 (.tmp 4), 3, "values.go:115", #[], none⟩ : Go.Oper) := rfl
theorem o99_1_17 : o99_1[17]? = some (⟨some 25, .binOp .rem 3 (.tmp 23) (.tmp 24) 3, 3, "values.go:115", #[⟨15, .data⟩, ⟨16, .data⟩], none⟩ : Go.Oper) := rfl
theorem o99_1_18 : o99_1[18]? = some (⟨some 26, .call { callee := .value (.func 67), args := #[.tmp 16, .tmp 25], argTypes := #[3, 3] }, 3, "values.go:115", #[⟨8, .data⟩, ⟨17, .data⟩], none⟩ : Go.Oper) := rfl
theorem o99_1_19 : o99_1[19]? = some (⟨some 7, .assign (.tmp 26), 3, "values.go:115", #[⟨18, .data⟩, ⟨18, .chain⟩, ⟨0, .phase⟩, ⟨1, .phase⟩, ⟨2, .phase⟩, ⟨3, .phase⟩, ⟨4, .phase⟩, ⟨5, .phase⟩, ⟨6, .phase⟩, ⟨7, .phase⟩, ⟨8, .phase⟩, ⟨9, .phase⟩, ⟨10, .phase⟩, ⟨11, .phase⟩, ⟨12, .phase⟩, ⟨13, .phase⟩, ⟨14, .phase⟩, ⟨15, .phase⟩, ⟨16, .phase⟩, ⟨17, .phase⟩, ⟨18, .phase⟩], none⟩ : Go.Oper) := rfl
theorem o99_1_ns : Go.Region.noSelect o99_1 = true := by kernel_rfl
set_option maxRecDepth 100000 in
set_option maxHeartbeats 2000000 in
theorem rem1_calls (X1 X2 X3 g off c : Nat) (N S : Int) (l : List OvD) (i : Nat) (x : OvD) (w : World) (h : DivAt w X1 X2 X3 N g off c l S) (hx : l[i]? = some x) (hl : l.length ≤ 1000) (hN0 : 0 ≤ N) (hN1 : N ≤ 100000000) (hx0 : 0 < x.worth) (hx1 : x.worth ≤ 10000000) (hS0 : 0 < S) (hS1 : S ≤ 1000000000) :
  Calls Tryz.prog 143 #[.int .i64 (i : Int), .pointer (some ⟨X1, 0, none⟩), .pointer (some ⟨X2, 0, none⟩), .pointer (some ⟨X3, 0, none⟩)] w fun e w' => e = .returned (.int .i64 (remV N S l i)) ∧ ∃ q, w' = w.drewN q := by
 obtain ⟨h1, h2, h3, h4⟩ := h
 have h5 := h4 i x hx
 have hi := (List.getElem?_eq_some_iff.1 hx).1
 have HV := Lib.hid (show remV N S l i = (N * x.worth).tmod S by unfold remV; rw [ovAt_some hx])
 obtain ⟨hm0, hm1⟩ := mulB hN0 hN1 hx0 hx1
 obtain ⟨n, hn⟩ : ∃ n, l.length = n := ⟨_, rfl⟩
 rw [hn] at h2 hl hi
 generalize remV N S l i = V at HV ⊢
 have hwm : IntKind.i64.wrap (N * x.worth) = N * x.worth := IntWalk.i64_in _ (by omega)
 have hS : S ≠ 0 := by omega
 have HS : Hid (∀ w' : World, w'.heap = w.heap → (True ∧ w'.cell? ⟨X1, 0, none⟩ = some (.int .i64 N) ∧ w'.cell? ⟨X2, 0, none⟩ = some (.slice (some ⟨g, off, none⟩) n c) ∧ w'.cell? ⟨X3, 0, none⟩ = some (.int .i64 S) ∧ w'.cell? ⟨g, off + i * 3 + 1, none⟩ = some (.int .i64 x.worth))) := Lib.hid (fun w' hh => by
  have e : ∀ a, w'.cell? a = w.cell? a := fun a => by unfold World.cell?; rw [hh]
  simp only [e]; exact ⟨trivial, h1, h2, h3, h5⟩)
 clear h4 hx hn
 go_enter Tryz.func143, Tryz.ntmps143
 go_upto_region 1 with fail
 show Code.wp _ (Code.region 1 o143_1 true) _ _ _
 refine region_start 10 (fun w' => True ∧ w'.cell? ⟨X1, 0, none⟩ = some (.int .i64 N) ∧ w'.cell? ⟨X2, 0, none⟩ = some (.slice (some ⟨g, off, none⟩) n c) ∧ w'.cell? ⟨X3, 0, none⟩ = some (.int .i64 S) ∧ w'.cell? ⟨g, off + i * 3 + 1, none⟩ = some (.int .i64 x.worth)) (by kernel_rfl) rfl ?_ (fun hHeld => ?_)
 ·(exact HS.out _ rfl)
 refine take_to 0 6 (bQ 10 1) (v := ?_) o143_1_0 rfl o143_1_ns (by kernel_rfl) (by kernel_rfl) (fun _ _ _ h => h) (by rfl) ?y0a (by assumption) ?_
 case y0a => intro w h; (try dsimp only at h); go_simp; try with_reducible rfl
 simp only [sE0, sE1]
 refine take_to 1 7 (bQ 10 3) (v := ?_) o143_1_1 rfl o143_1_ns (by kernel_rfl) (by kernel_rfl) (fun _ _ _ h => h) (by rfl) ?y1a (by assumption) ?_
 case y1a => intro w h; (try dsimp only at h); go_simp; try with_reducible rfl
 simp only [sE0, sE1]
 refine take_to 2 8 (bQ 10 7) (v := ?_) o143_1_2 rfl o143_1_ns (by kernel_rfl) (by kernel_rfl) (fun _ _ _ h => h) (by rfl) ?y2a (by assumption) ?_
 case y2a => intro w h; (try dsimp only at h); go_simp; try with_reducible rfl
 simp only [sE0, sE1]
 refine take_to 3 9 (bQ 10 15) (v := ?_) o143_1_3 rfl o143_1_ns (by kernel_rfl) (by kernel_rfl) (fun _ _ _ h => h) (by rfl) ?y3a (by assumption) ?_
 case y3a => intro w h; (try dsimp only at h); go_simp; try with_reducible rfl
 simp only [sE0, sE1]
 refine take_to 4 10 (bQ 10 31) (v := ?_) o143_1_4 rfl o143_1_ns (by kernel_rfl) (by kernel_rfl) (fun _ _ _ h => h) (by rfl) ?y4a (by assumption) ?_
 case y4a => intro w h; (try dsimp only at h); go_simp; try with_reducible rfl
 simp only [sE0, sE1]
 refine take_to 5 11 (bQ 10 63) (v := ?_) o143_1_5 rfl o143_1_ns (by kernel_rfl) (by kernel_rfl) (fun _ _ _ h => h) (by rfl) ?y5a (by assumption) ?_
 case y5a => intro w h; (try dsimp only at h); go_simp; try with_reducible rfl
 simp only [sE0, sE1]
 refine take_to 6 12 (bQ 10 127) (v := ?_) o143_1_6 rfl o143_1_ns (by kernel_rfl) (by kernel_rfl) (fun _ _ _ h => h) (by rfl) ?y6a (by assumption) ?_
 case y6a => intro w h; (try dsimp only at h); go_simp; try with_reducible rfl
 simp only [sE0, sE1]
 refine take_to 7 13 (bQ 10 255) (v := ?_) o143_1_7 rfl o143_1_ns (by kernel_rfl) (by kernel_rfl) (fun _ _ _ h => h) (by rfl) ?y7a (by assumption) ?_
 case y7a => intro w h; (try dsimp only at h); go_simp; try with_reducible rfl
 simp only [sE0, sE1]
 refine take_to 8 14 (bQ 10 511) (v := ?_) o143_1_8 rfl o143_1_ns (by kernel_rfl) (by kernel_rfl) (fun _ _ _ h => h) (by rfl) ?y8a (by assumption) ?_
 case y8a => intro w h; (try dsimp only at h); go_simp; try with_reducible rfl
 simp only [sE0, sE1]
 refine take_to 9 5 (bQ 10 1023) (v := ?_) o143_1_9 rfl o143_1_ns (by kernel_rfl) (by kernel_rfl) (fun _ _ _ h => h) (by rfl) ?y9a (by assumption) ?_
 case y9a => intro w h; (try dsimp only at h); go_simp; try with_reducible rfl
 simp only [sE0, sE1]
 refine wpAnyH_done (by kernel_rfl) ?_ _
 go_wp2_with fail
 go_ret
 exact ⟨by rw [HV.out]; rfl, 1, rfl⟩
def cmpRem (N S : Int) (l : List OvD) (i j : Nat) : Int := Lib.compareInt (remV N S l j) (remV N S l i)
set_option maxRecDepth 100000 in
set_option maxHeartbeats 2000000 in
theorem rem2_calls (X1 X2 X3 X13 g off c : Nat) (N S : Int) (l : List OvD) (i j : Nat) (x y : OvD) (w : World) (h : DivAt w X1 X2 X3 N g off c l S) (hF : w.cell? ⟨X13, 0, none⟩ = some (.func (.func 143) #[] #[.pointer (some ⟨X1, 0, none⟩), .pointer (some ⟨X2, 0, none⟩), .pointer (some ⟨X3, 0, none⟩)])) (hx : l[i]? = some x) (hy : l[j]? = some y) (hl : l.length ≤ 1000) (hN0 : 0 ≤ N) (hN1 : N ≤ 100000000) (hx0 : 0 < x.worth) (hx1 : x.worth ≤ 10000000) (hy0 : 0 < y.worth) (hy1 : y.worth ≤ 10000000) (hS0 : 0 < S) (hS1 : S ≤ 1000000000) :
  Calls Tryz.prog 144 #[.int .i64 (i : Int), .int .i64 (j : Int), .pointer (some ⟨X13, 0, none⟩)] w fun e w' => e = .returned (.int .i64 (cmpRem N S l i j)) ∧ ∃ q, w' = w.drewN q := by
 have hD : ∀ q, DivAt (w.drewN q) X1 X2 X3 N g off c l S := fun q => h
 have CX := Lib.hid (fun q => rem1_calls X1 X2 X3 g off c N S l i x (w.drewN q) (hD q) hx hl hN0 hN1 hx0 hx1 hS0 hS1)
 have CY := Lib.hid (fun q => rem1_calls X1 X2 X3 g off c N S l j y (w.drewN q) (hD q) hy hl hN0 hN1 hy0 hy1 hS0 hS1)
 have HV := Lib.hid (show cmpRem N S l i j = Lib.compareInt (remV N S l j) (remV N S l i) from rfl)
 generalize cmpRem N S l i j = V at HV ⊢
 generalize remV N S l j = vj at CY HV
 generalize remV N S l i = vi at CX HV
 have HS : Hid (∀ q : Nat, (fun w' : World => True ∧ w'.cell? ⟨X13, 0, none⟩ = some (.func (.func 143) #[] #[.pointer (some ⟨X1, 0, none⟩), .pointer (some ⟨X2, 0, none⟩), .pointer (some ⟨X3, 0, none⟩)])) (w.drewN q)) := Lib.hid (fun q => ⟨trivial, hF⟩)
 clear hD h hx hy
 go_enter Tryz.func144, Tryz.ntmps144
 go_upto_region 1 with fail
 show Code.wp _ (Code.region 1 o144_1 true) _ _ _
 refine region_start 8 (fun w' => True ∧ w'.cell? ⟨X13, 0, none⟩ = some (.func (.func 143) #[] #[.pointer (some ⟨X1, 0, none⟩), .pointer (some ⟨X2, 0, none⟩), .pointer (some ⟨X3, 0, none⟩)])) (by kernel_rfl) rfl ?_ (fun hHeld => ?_)
 ·(exact HS.out _)
 refine take_to 0 6 (bQ 8 1) (v := ?_) o144_1_0 rfl o144_1_ns (by kernel_rfl) (by kernel_rfl) (fun _ _ _ h => h) (by rfl) ?y0b (by assumption) ?_
 case y0b => intro w h; (try dsimp only at h); go_simp; try with_reducible rfl
 simp only [sE0, sE1]
 refine take_to 1 7 (bQ 8 3) (v := ?_) o144_1_1 rfl o144_1_ns (by kernel_rfl) (by kernel_rfl) (fun _ _ _ h => h) (by rfl) ?y1b (by assumption) ?_
 case y1b => intro w h; (try dsimp only at h); go_simp; try with_reducible rfl
 simp only [sE0, sE1]
 refine take_to 3 9 (bQ 8 11) (v := ?_) o144_1_3 rfl o144_1_ns (by kernel_rfl) (by kernel_rfl) (fun _ _ _ h => h) (by rfl) ?y3b (by assumption) ?_
 case y3b => intro w h; (try dsimp only at h); go_simp; try with_reducible rfl
 simp only [sE0, sE1]
 refine take_to 4 10 (bQ 8 27) (v := ?_) o144_1_4 rfl o144_1_ns (by kernel_rfl) (by kernel_rfl) (fun _ _ _ h => h) (by rfl) ?y4b (by assumption) ?_
 case y4b => intro w h; (try dsimp only at h); go_simp; try with_reducible rfl
 simp only [sE0, sE1]
 refine run_to 2 (bQ 8 31) o144_1_2 (by kernel_rfl) (by kernel_rfl) (by rfl) (fun K hK => ?_)
 go_simp
 refine (CY.out 1).mono ?_
 rintro e w2 ⟨rfl, q1, rfl⟩
 rw [World.drewN_drewN]
 go_wp2_with fail
 refine hK.out _ _ ?_ (fun hHeld => ?_)
 ·(exact HS.out _)
 clear hK K
 try simp only [Act.put, sEt, sE0, sE1]
 refine run_to 5 (bQ 8 63) o144_1_5 (by kernel_rfl) (by kernel_rfl) (by rfl) (fun K hK => ?_)
 go_simp
 refine (CX.out _).mono ?_
 rintro e w2 ⟨rfl, q2, rfl⟩
 rw [World.drewN_drewN]
 go_wp2_with fail
 refine hK.out _ _ ?_ (fun hHeld => ?_)
 ·(exact HS.out _)
 clear hK K
 try simp only [Act.put, sEt, sE0, sE1]
 refine run_to 6 (bQ 8 127) o144_1_6 (by kernel_rfl) (by kernel_rfl) (by rfl) (fun K hK => ?_)
 go_simp
 refine (intCmp_calls _ _ _).mono ?_
 rintro e w2 ⟨rfl, rfl⟩
 go_wp2_with fail
 refine hK.out _ _ ?_ (fun hHeld => ?_)
 ·(exact HS.out _)
 clear hK K
 try simp only [Act.put, sEt, sE0, sE1]
 refine take_to 7 5 (bQ 8 255) (v := ?_) o144_1_7 rfl o144_1_ns (by kernel_rfl) (by kernel_rfl) (fun _ _ _ h => h) (by rfl) ?y7b (by assumption) ?_
 case y7b => intro w h; (try dsimp only at h); go_simp; try with_reducible rfl
 simp only [sE0, sE1]
 refine wpAnyH_done (by kernel_rfl) ?_ _
 go_wp2_with fail
 go_ret
 exact ⟨by rw [HV.out]; rfl, _, rfl⟩
set_option maxRecDepth 100000 in
set_option maxHeartbeats 2000000 in
theorem pricesOf2_calls (X1 X2 X3 g off c : Nat) (N S : Int) (l : List OvD) (i j : Nat) (x y : OvD) (w : World) (h : DivAt w X1 X2 X3 N g off c l S) (hx : l[i]? = some x) (hy : l[j]? = some y) (hl : l.length ≤ 1000) (hN0 : 0 ≤ N) (hN1 : N ≤ 100000000) (hx0 : 0 < x.worth) (hx1 : x.worth ≤ 10000000) (hy0 : 0 < y.worth) (hy1 : y.worth ≤ 10000000) (hS0 : 0 < S) (hS1 : S ≤ 1000000000) :
  Calls Tryz.prog 99 #[.int .i64 (i : Int), .int .i64 (j : Int), .pointer (some ⟨X1, 0, none⟩), .pointer (some ⟨X2, 0, none⟩), .pointer (some ⟨X3, 0, none⟩)] w fun e w' => e = .returned (.int .i64 (cmpRem N S l i j)) ∧ ∃ q, w' = w.drewN q := by
 obtain ⟨h1, h2, h3, h4⟩ := h
 have h5 := h4 i x hx
 have h6 := h4 j y hy
 have hi := (List.getElem?_eq_some_iff.1 hx).1
 have hj := (List.getElem?_eq_some_iff.1 hy).1
 have HV := Lib.hid (show cmpRem N S l i j = Lib.compareInt ((N * y.worth).tmod S) ((N * x.worth).tmod S) by unfold cmpRem remV; rw [ovAt_some hx, ovAt_some hy])
 obtain ⟨hm0, hm1⟩ := mulB hN0 hN1 hx0 hx1
 obtain ⟨hm2, hm3⟩ := mulB hN0 hN1 hy0 hy1
 obtain ⟨n, hn⟩ : ∃ n, l.length = n := ⟨_, rfl⟩
 rw [hn] at h2 hl hi hj
 generalize cmpRem N S l i j = V at HV ⊢
 have hwm : IntKind.i64.wrap (N * x.worth) = N * x.worth := IntWalk.i64_in _ (by omega)
 have hwn : IntKind.i64.wrap (N * y.worth) = N * y.worth := IntWalk.i64_in _ (by omega)
 have hS : S ≠ 0 := by omega
 have HS : Hid (∀ w' : World, w'.heap = w.heap → (True ∧ w'.cell? ⟨X1, 0, none⟩ = some (.int .i64 N) ∧ w'.cell? ⟨X2, 0, none⟩ = some (.slice (some ⟨g, off, none⟩) n c) ∧ w'.cell? ⟨X3, 0, none⟩ = some (.int .i64 S) ∧ w'.cell? ⟨g, off + i * 3 + 1, none⟩ = some (.int .i64 x.worth) ∧ w'.cell? ⟨g, off + j * 3 + 1, none⟩ = some (.int .i64 y.worth))) := Lib.hid (fun w' hh => by
  have e : ∀ a, w'.cell? a = w.cell? a := fun a => by unfold World.cell?; rw [hh]
  simp only [e]; exact ⟨trivial, h1, h2, h3, h5, h6⟩)
 clear h4 hx hy hn
 go_enter Tryz.func99, Tryz.ntmps99
 go_upto_region 1 with fail
 show Code.wp _ (Code.region 1 o99_1 true) _ _ _
 refine region_start 20 (fun w' => True ∧ w'.cell? ⟨X1, 0, none⟩ = some (.int .i64 N) ∧ w'.cell? ⟨X2, 0, none⟩ = some (.slice (some ⟨g, off, none⟩) n c) ∧ w'.cell? ⟨X3, 0, none⟩ = some (.int .i64 S) ∧ w'.cell? ⟨g, off + i * 3 + 1, none⟩ = some (.int .i64 x.worth) ∧ w'.cell? ⟨g, off + j * 3 + 1, none⟩ = some (.int .i64 y.worth)) (by kernel_rfl) rfl ?_ (fun hHeld => ?_)
 ·(exact HS.out _ rfl)
 refine take_to 0 8 (bQ 20 1) (v := ?_) o99_1_0 rfl o99_1_ns (by kernel_rfl) (by kernel_rfl) (fun _ _ _ h => h) (by rfl) ?y0c (by assumption) ?_
 case y0c => intro w h; (try dsimp only at h); go_simp; try with_reducible rfl
 simp only [sE0, sE1]
 refine take_to 1 9 (bQ 20 3) (v := ?_) o99_1_1 rfl o99_1_ns (by kernel_rfl) (by kernel_rfl) (fun _ _ _ h => h) (by rfl) ?y1c (by assumption) ?_
 case y1c => intro w h; (try dsimp only at h); go_simp; try with_reducible rfl
 simp only [sE0, sE1]
 refine take_to 2 10 (bQ 20 7) (v := ?_) o99_1_2 rfl o99_1_ns (by kernel_rfl) (by kernel_rfl) (fun _ _ _ h => h) (by rfl) ?y2c (by assumption) ?_
 case y2c => intro w h; (try dsimp only at h); go_simp; try with_reducible rfl
 simp only [sE0, sE1]
 refine take_to 3 11 (bQ 20 15) (v := ?_) o99_1_3 rfl o99_1_ns (by kernel_rfl) (by kernel_rfl) (fun _ _ _ h => h) (by rfl) ?y3c (by assumption) ?_
 case y3c => intro w h; (try dsimp only at h); go_simp; try with_reducible rfl
 simp only [sE0, sE1]
 refine take_to 4 12 (bQ 20 31) (v := ?_) o99_1_4 rfl o99_1_ns (by kernel_rfl) (by kernel_rfl) (fun _ _ _ h => h) (by rfl) ?y4c (by assumption) ?_
 case y4c => intro w h; (try dsimp only at h); go_simp; try with_reducible rfl
 simp only [sE0, sE1]
 refine take_to 5 13 (bQ 20 63) (v := ?_) o99_1_5 rfl o99_1_ns (by kernel_rfl) (by kernel_rfl) (fun _ _ _ h => h) (by rfl) ?y5c (by assumption) ?_
 case y5c => intro w h; (try dsimp only at h); go_simp; try with_reducible rfl
 simp only [sE0, sE1]
 refine take_to 6 14 (bQ 20 127) (v := ?_) o99_1_6 rfl o99_1_ns (by kernel_rfl) (by kernel_rfl) (fun _ _ _ h => h) (by rfl) ?y6c (by assumption) ?_
 case y6c => intro w h; (try dsimp only at h); go_simp; try with_reducible rfl
 simp only [sE0, sE1]
 refine take_to 7 15 (bQ 20 255) (v := ?_) o99_1_7 rfl o99_1_ns (by kernel_rfl) (by kernel_rfl) (fun _ _ _ h => h) (by rfl) ?y7c (by assumption) ?_
 case y7c => intro w h; (try dsimp only at h); go_simp; try with_reducible rfl
 simp only [sE0, sE1]
 refine take_to 8 16 (bQ 20 511) (v := ?_) o99_1_8 rfl o99_1_ns (by kernel_rfl) (by kernel_rfl) (fun _ _ _ h => h) (by rfl) ?y8c (by assumption) ?_
 case y8c => intro w h; (try dsimp only at h); go_simp; try with_reducible rfl
 simp only [sE0, sE1]
 refine take_to 9 17 (bQ 20 1023) (v := ?_) o99_1_9 rfl o99_1_ns (by kernel_rfl) (by kernel_rfl) (fun _ _ _ h => h) (by rfl) ?y9c (by assumption) ?_
 case y9c => intro w h; (try dsimp only at h); go_simp; try with_reducible rfl
 simp only [sE0, sE1]
 refine take_to 10 18 (bQ 20 2047) (v := ?_) o99_1_10 rfl o99_1_ns (by kernel_rfl) (by kernel_rfl) (fun _ _ _ h => h) (by rfl) ?y10c (by assumption) ?_
 case y10c => intro w h; (try dsimp only at h); go_simp; try with_reducible rfl
 simp only [sE0, sE1]
 refine take_to 11 19 (bQ 20 4095) (v := ?_) o99_1_11 rfl o99_1_ns (by kernel_rfl) (by kernel_rfl) (fun _ _ _ h => h) (by rfl) ?y11c (by assumption) ?_
 case y11c => intro w h; (try dsimp only at h); go_simp; try with_reducible rfl
 simp only [sE0, sE1]
 refine take_to 12 20 (bQ 20 8191) (v := ?_) o99_1_12 rfl o99_1_ns (by kernel_rfl) (by kernel_rfl) (fun _ _ _ h => h) (by rfl) ?y12c (by assumption) ?_
 case y12c => intro w h; (try dsimp only at h); go_simp; try with_reducible rfl
 simp only [sE0, sE1]
 refine take_to 13 21 (bQ 20 16383) (v := ?_) o99_1_13 rfl o99_1_ns (by kernel_rfl) (by kernel_rfl) (fun _ _ _ h => h) (by rfl) ?y13c (by assumption) ?_
 case y13c => intro w h; (try dsimp only at h); go_simp; try with_reducible rfl
 simp only [sE0, sE1]
 refine take_to 14 22 (bQ 20 32767) (v := ?_) o99_1_14 rfl o99_1_ns (by kernel_rfl) (by kernel_rfl) (fun _ _ _ h => h) (by rfl) ?y14c (by assumption) ?_
 case y14c => intro w h; (try dsimp only at h); go_simp; try with_reducible rfl
 simp only [sE0, sE1]
 refine take_to 15 23 (bQ 20 65535) (v := ?_) o99_1_15 rfl o99_1_ns (by kernel_rfl) (by kernel_rfl) (fun _ _ _ h => h) (by rfl) ?y15c (by assumption) ?_
 case y15c => intro w h; (try dsimp only at h); go_simp; try with_reducible rfl
 simp only [sE0, sE1]
 refine take_to 16 24 (bQ 20 131071) (v := ?_) o99_1_16 rfl o99_1_ns (by kernel_rfl) (by kernel_rfl) (fun _ _ _ h => h) (by rfl) ?y16c (by assumption) ?_
 case y16c => intro w h; (try dsimp only at h); go_simp; try with_reducible rfl
 simp only [sE0, sE1]
 refine take_to 17 25 (bQ 20 262143) (v := ?_) o99_1_17 rfl o99_1_ns (by kernel_rfl) (by kernel_rfl) (fun _ _ _ h => h) (by rfl) ?y17c (by assumption) ?_
 case y17c => intro w h; (try dsimp only at h); go_simp; try with_reducible rfl
 simp only [sE0, sE1]
 refine run_to 18 (bQ 20 524287) o99_1_18 (by kernel_rfl) (by kernel_rfl) (by rfl) (fun K hK => ?_)
 go_simp
 refine (intCmp_calls _ _ _).mono ?_
 rintro e w2 ⟨rfl, rfl⟩
 go_wp2_with fail
 refine hK.out _ _ ?_ (fun hHeld => ?_)
 ·(exact HS.out _ rfl)
 clear hK K
 try simp only [Act.put, sEt, sE0, sE1]
 refine take_to 19 7 (bQ 20 1048575) (v := ?_) o99_1_19 rfl o99_1_ns (by kernel_rfl) (by kernel_rfl) (fun _ _ _ h => h) (by rfl) ?y19c (by assumption) ?_
 case y19c => intro w h; (try dsimp only at h); go_simp; try with_reducible rfl
 simp only [sE0, sE1]
 refine wpAnyH_done (by kernel_rfl) ?_ _
 go_wp2_with fail
 go_ret
 exact ⟨by rw [HV.out]; rfl, 1, rfl⟩
end Go.Proofs.YtddnnjblpgfjeaaGreatDoor
/- A number divided by worths: the program's way. -/
namespace Go.Proofs.YtddnnjblpgfjeaaGreatDoor
open Go.RowKit

def sumO (l : List OvD) : Int := (l.map OvD.worth).sum
theorem sumO_snoc {l : List OvD} {k : Nat} {x : OvD} (h : l[k]? = some x) : sumO (l.take (k + 1)) = sumO (l.take k) + x.worth := by
 rw [take_snocG h]; unfold sumO; simp
theorem sumO_bound (l : List OvD) (h : ∀ x ∈ l, 0 < x.worth ∧ x.worth ≤ 10000000) : ∀ k, 0 ≤ sumO (l.take k) ∧ sumO (l.take k) ≤ 10000000 * (k : Int)
 | 0 => by simp [sumO]
 | k + 1 => by
  have ih := sumO_bound l h k; by_cases hk : k < l.length
  ·have hx := List.getElem?_eq_getElem hk
   have hb := h _ (List.getElem_mem hk); rw [sumO_snoc hx]; omega
  ·rw [List.take_of_length_le (by omega), ← List.take_of_length_le (i := k) (by omega : l.length ≤ k)]
   omega
/-- The whole parts. -/
def shr (N S : Int) (l : List OvD) (i : Nat) : Int := (N * (ovAt l i).worth).tdiv S
def shrs (N S : Int) (l : List OvD) (k : Nat) : List Int := (List.range k).map (shr N S l)
theorem shrs_succ (N S : Int) (l : List OvD) (k : Nat) : shrs N S l (k + 1) = shrs N S l k ++ [shr N S l k] := by unfold shrs; rw [List.range_succ, List.map_append]; rfl
/-- The whole parts together: no more than the number, and less than one a row short of it. -/
theorem shrs_sum {N S : Int} {l : List OvD} (hN : 0 ≤ N) (hS : 0 < S) (hw : ∀ x ∈ l, 0 < x.worth) : ∀ k, k ≤ l.length → S * (shrs N S l k).sum ≤ N * sumO (l.take k) ∧ N * sumO (l.take k) ≤ S * (shrs N S l k).sum + (k : Int) * (S - 1) ∧ 0 ≤ (shrs N S l k).sum
 | 0, _ => by simp [shrs, sumO]
 | k + 1, h => by
  obtain ⟨h1, h2, h3⟩ := shrs_sum hN hS hw k (by omega)
  have hx := List.getElem?_eq_getElem (show k < l.length by omega)
  have hxw := hw _ (List.getElem_mem (show k < l.length by omega))
  rw [shrs_succ, List.sum_append, sumO_snoc hx]
  have hs : shr N S l k = (N * l[k].worth) / S := by
   unfold shr; rw [ovAt_some hx]
   exact Int.tdiv_eq_ediv_of_nonneg (Int.mul_nonneg hN (Int.le_of_lt hxw))
  have hd := Int.mul_ediv_add_emod (N * l[k].worth) S; have hm0 := Int.emod_nonneg (N * l[k].worth) (show S ≠ 0 by omega)
  have hm1 := Int.emod_lt_of_pos (N * l[k].worth) hS; have hp : 0 ≤ (N * l[k].worth) / S := Int.ediv_nonneg (Int.mul_nonneg hN (Int.le_of_lt hxw)) (Int.le_of_lt hS)
  simp only [List.sum_cons, List.sum_nil, Int.add_zero]; rw [hs, Int.mul_add, Int.mul_add]
  have hcast : ((k + 1 : Nat) : Int) * (S - 1) = (k : Int) * (S - 1) + (S - 1) := by
   rw [show ((k + 1 : Nat) : Int) = (k : Int) + 1 by omega, Int.add_mul, Int.one_mul]
  rw [hcast]; omega
theorem left_bound {N : Int} {l : List OvD} (hN : 0 ≤ N) (hw : ∀ x ∈ l, 0 < x.worth) (hS : 0 < sumO l) : 0 ≤ N - (shrs N (sumO l) l l.length).sum ∧ N - (shrs N (sumO l) l l.length).sum ≤ (l.length : Int) := by
 obtain ⟨h1, h2, _⟩ := shrs_sum (S := sumO l) hN hS hw l.length (Nat.le_refl _)
 rw [List.take_length] at h1 h2
 generalize (shrs N (sumO l) l l.length).sum = T at h1 h2 ⊢
 generalize sumO l = S at hS h1 h2 ⊢
 rw [Int.mul_comm N S] at h1 h2
 constructor
 ·have := Int.le_of_mul_le_mul_left h1 hS
  omega
 ·have h3 : S * N ≤ S * (T + (l.length : Int)) := by
   rw [Int.mul_add, Int.mul_comm S (l.length : Int)]; have : (l.length : Int) * (S - 1) = (l.length : Int) * S - (l.length : Int) := by rw [Int.mul_sub, Int.mul_one]
   omega
  have := Int.le_of_mul_le_mul_left h3 hS
  omega
/-- One more at each of these places. -/
def bump : List Int → List Nat → List Int
 | s, [] => s
 | s, i :: is => bump (s.set i (s[i]?.getD 0 + 1)) is
theorem bump_snoc (s : List Int) (is : List Nat) (i : Nat) : bump s (is ++ [i]) = (bump s is).set i ((bump s is)[i]?.getD 0 + 1) := by
 induction is generalizing s with
 | nil => rfl
 | cons a is ih => simp only [List.cons_append, bump]; exact ih _
theorem bump_len (s : List Int) (is : List Nat) : (bump s is).length = s.length := by
 induction is generalizing s with
 | nil => rfl
 | cons a is ih => simp only [bump]; rw [ih]; simp
/-- What each gets. -/
def divR (N : Int) (l : List OvD) : List Int :=
 match l.length with
 | 0 => []
 | m + 1 => bump (shrs N (sumO l) l l.length) (((insL (fun i j : Fin (m + 1) => cmpRem N (sumO l) l i.val j.val) (List.finRange (m + 1))).map Fin.val).take (N - (shrs N (sumO l) l l.length).sum).toNat)
end Go.Proofs.YtddnnjblpgfjeaaGreatDoor
/- A number divided by worths: the program's walk. -/
namespace Go.Proofs.YtddnnjblpgfjeaaGreatDoor
open Go.RowKit

def IntsAt (w : World) (g : Nat) (zs : List Int) : Prop := w.heap[g]? = some (.cells (zs.map (Value.int .i64)).toArray 3 (0, 0))
theorem IntsAt.put {w : World} {g i : Nat} {zs : List Int} (h : IntsAt w g zs) (z : Int) : IntsAt (w.setCell ⟨g, i, none⟩ (.int .i64 z)) g (zs.set i z) := by
 unfold IntsAt at h ⊢
 simp [World.setCell, Array.getElem?_modify, h, List.map_set]
theorem IntsAt.cell {w : World} {g i : Nat} {zs : List Int} {z : Int} (h : IntsAt w g zs) (hz : zs[i]? = some z) : w.cell? ⟨g, i, none⟩ = some (.int .i64 z) := by
 rw [cell_of_row w g i _ 3 (0, 0) h]
 simp [hz]
theorem made_ints (n : Nat) : madeCells #[.int .i64 0] n = ((List.replicate n (0 : Int)).map (Value.int .i64)).toArray := by
 apply Array.toList_inj.1
 rw [toList_madeCells_one]
 simp
/-- Filled up to k by f. -/
def fillI (f : Nat → Int) (n k : Nat) : List Int := (List.range n).map fun i => if i < k then f i else 0
theorem fillI_zero (f : Nat → Int) (n : Nat) : fillI f n 0 = List.replicate n 0 := by
 unfold fillI
 rw [List.eq_replicate_iff]
 refine ⟨by simp, fun b hb => ?_⟩
 obtain ⟨i, _, rfl⟩ := List.mem_map.1 hb
 rfl
theorem fillI_at {f : Nat → Int} {n k i : Nat} (h : i < n) : (fillI f n k)[i]? = some (if i < k then f i else 0) := by unfold fillI; simp [h]
theorem fillI_succ {f : Nat → Int} {n k : Nat} (h : k < n) : (fillI f n k).set k (f k) = fillI f n (k + 1) := by
 refine List.ext_getElem? fun i => ?_
 rw [List.getElem?_set]
 by_cases hi : i < n
 ·by_cases e : k = i
  ·subst e
   rw [if_pos rfl, if_pos (by unfold fillI; simpa using h), fillI_at hi, if_pos (Nat.lt_succ_self k)]
  ·rw [if_neg e, fillI_at hi, fillI_at hi]
   by_cases h1 : i < k
   ·rw [if_pos h1, if_pos (by omega)]
   ·rw [if_neg h1, if_neg (by omega)]
 ·have h1 : (fillI f n (k + 1))[i]? = none := List.getElem?_eq_none (by unfold fillI; simp; omega)
  have h2 : (fillI f n k)[i]? = none := List.getElem?_eq_none (by unfold fillI; simp; omega)
  rw [h1, if_neg (by omega), h2]
theorem fillI_full (f : Nat → Int) (n : Nat) : fillI f n n = (List.range n).map f := by
 unfold fillI
 refine List.map_congr_left fun i hi => ?_
 rw [if_pos (List.mem_range.1 hi)]
theorem shr_bound {N S : Int} {l : List OvD} {i : Nat} {x : OvD} (hx : l[i]? = some x) (hN0 : 0 ≤ N) (hN1 : N ≤ 100000000) (h0 : 0 < x.worth) (h1 : x.worth ≤ 10000000) (hS : 0 < S) : (N * x.worth).tdiv S = shr N S l i ∧ 0 ≤ shr N S l i ∧ shr N S l i ≤ 1000000000000000 := by
 have e : shr N S l i = (N * x.worth).tdiv S := by unfold shr; rw [ovAt_some hx]
 obtain ⟨a, b⟩ := mulB hN0 hN1 h0 h1
 rw [e, Int.tdiv_eq_ediv_of_nonneg a]
 refine ⟨rfl, Int.ediv_nonneg a (Int.le_of_lt hS), ?_⟩
 have := Int.ediv_le_self S a
 omega
theorem shrs_abs {N S : Int} {l : List OvD} (hN0 : 0 ≤ N) (hN1 : N ≤ 100000000) (hw : ∀ x ∈ l, 0 < x.worth ∧ x.worth ≤ 10000000) (hS : 0 < S) : ∀ k, k ≤ l.length → 0 ≤ (shrs N S l k).sum ∧ (shrs N S l k).sum ≤ 1000000000000000 * (k : Int)
 | 0, _ => by simp [shrs]
 | k + 1, h => by
  have ih := shrs_abs hN0 hN1 hw hS k (by omega)
  have hx := List.getElem?_eq_getElem (show k < l.length by omega)
  obtain ⟨h0, h1⟩ := hw _ (List.getElem_mem (show k < l.length by omega))
  obtain ⟨_, b, c⟩ := shr_bound (S := S) hx hN0 hN1 h0 h1 hS; rw [shrs_succ, List.sum_append]; simp only [List.sum_cons, List.sum_nil, Int.add_zero]; omega
theorem sumO_pos {l : List OvD} (h : ∀ x ∈ l, 0 < x.worth) (hl : 0 < l.length) : 0 < sumO l := by
 cases l with
 | nil => simp at hl
 | cons a l =>
  have h0 := h a (by simp)
  have h1 : 0 ≤ sumO l := by
   clear hl h0; induction l with
   | nil => simp [sumO]
   | cons b l ih =>
    have hb := h b (by simp)
    have := ih (fun x hx => h x (by rcases List.mem_cons.1 hx with rfl | hx <;> simp_all))
    unfold sumO at this ⊢
    simp only [List.map_cons, List.sum_cons]; omega
  unfold sumO at h1 ⊢
  simp only [List.map_cons, List.sum_cons]; omega
theorem bump_bound {B : Int} : ∀ (is : List Nat) (s : List Int) (C : Int), (∀ z ∈ s, 0 ≤ z ∧ z ≤ C) → 0 ≤ C → C + is.length ≤ B → ∀ z ∈ bump s is, 0 ≤ z ∧ z ≤ B
 | [], s, C, h, _, hB, z, hz => by
  have := h z hz
  simp at hB
  omega
 | i :: is, s, C, h, hC, hB, z, hz => by
  refine bump_bound is _ (C + 1) (fun y hy => ?_) (by omega) (by simp at hB; omega) z hz
  rcases List.mem_or_eq_of_mem_set hy with h1 | h1
  ·have := h y h1; omega
  ·rw [h1]
   cases hq : s[i]? with
   | none => simp; omega
   | some u =>
    have := h u (List.mem_of_getElem? hq)
    simp; omega
theorem fin_list (m : Nat) : ((List.range (m + 1)).map fun i => ((i : Nat) : Int)).map (Value.int .i64) = (List.finRange (m + 1)).map finV := by
 refine List.ext_getElem? fun i => ?_
 by_cases hi : i < m + 1
 ·simp [hi, finV]
 ·simp [hi]
def IntsMade (zs : List Int) (w : World) (e : Ending) (w' : World) : Prop := ∃ g c, e = .returned (.slice (some ⟨g, 0, none⟩) zs.length c) ∧ IntsAt w' g zs ∧ w.heap.size ≤ g ∧ Below w.heap.size w w'
set_option maxRecDepth 100000 in
set_option maxHeartbeats 8000000 in
theorem divided_calls (lo : Nat) (v : Value) (l : List OvD) (N : Int) (m : Nat) (w : World) (hv : Ovs w lo v l) (hl : l.length = m + 1) (hm : m + 1 ≤ 12) (hw : ∀ x ∈ l, 0 < x.worth ∧ x.worth ≤ 10000000) (hN0 : 0 ≤ N) (hN1 : N ≤ 100000000) :
  Calls Tryz.prog 96 #[.int .i64 N, v] w (IntsMade (divR N l) w) := by
 have HW := Lib.hid hw
 have HSB := Lib.hid (sumO_bound l hw)
 have HL := Lib.hid hl
 rcases ov_at hv with ⟨_, h⟩ | ⟨g, off, c, rfl, _, hglt, _, hcell⟩
 ·rw [h] at hl; simp at hl
 have Hcell := Lib.hid hcell
 obtain ⟨n, hn⟩ : ∃ n, l.length = n := ⟨_, rfl⟩
 have Hn := Lib.hid hn
 have hn12 : n ≤ 12 := by omega
 have hn0 : 0 < n := by omega
 rw [hn]
 obtain ⟨W3, hW3⟩ : ∃ W3, W3 = ((w.alloc (.cells #[.int .i64 N] 3)).alloc (.cells #[.slice (some ⟨g, off, none⟩) n c] 62)).alloc (.cells #[.int .i64 0] 3) := ⟨_, rfl⟩
 have hb3 : Below w.heap.size w W3 := by rw [hW3]; exact below_step (below_step (below_alloc w _) (below_alloc _ _)) (below_alloc _ _)
 have hs3 : W3.heap.size = w.heap.size + 3 := by rw [hW3]; simp
 have hX2 : W3.heap[w.heap.size]? = some (.cells #[.int .i64 N] 3 (0, 0)) := by rw [hW3]; exact heap_alG (heap_alG (heap_alloc_new w _) _) _
 have hX3 : W3.heap[w.heap.size + 1]? = some (.cells #[.slice (some ⟨g, off, none⟩) n c] 62 (0, 0)) := by
  rw [hW3]; have h := heap_alloc_new (w.alloc (.cells #[.int .i64 N] 3)) (.cells #[.slice (some ⟨g, off, none⟩) n c] 62); rw [World.size_alloc] at h
  exact heap_alG h _
 have hX5 : W3.heap[w.heap.size + 2]? = some (.cells #[.int .i64 0] 3 (0, 0)) := by
  rw [hW3]; have h := heap_alloc_new ((w.alloc (.cells #[.int .i64 N] 3)).alloc (.cells #[.slice (some ⟨g, off, none⟩) n c] 62)) (.cells #[.int .i64 0] 3); simpa using h
 have HX2 := Lib.hid hX2
 have HX3 := Lib.hid hX3
 have HX5 := Lib.hid hX5
 have Hb3 := Lib.hid hb3
 have Hs3 := Lib.hid hs3
 clear hv hw hl hcell hn hX2 hX3 hX5 hb3 hs3
 go_enter Tryz.func96, Tryz.ntmps96
 go_upto_region 2 with fail
 rw [← hW3]
 clear hW3
 have y3 := cell_at HX3.out 0 rfl
 go_wp2_with fail
 go_loopw [18] (fun i wr => ∃ k : Nat, k ≤ n ∧ i = .int .i64 k ∧ Hid (wr.heap[w.heap.size + 2]? = some (.cells #[.int .i64 (sumO (l.take k))] 3 (0, 0))) ∧ W3.grownBy wr (some (w.heap.size + 2))) (fun i _ => n - (intOf i).toNat)
 case atStart => exact ⟨0, Nat.zero_le _, rfl, Lib.hid (by simpa [sumO] using HX5.out), gb_refl _ _⟩
 case round =>
  clear y3; obtain ⟨k, hk, rfl, H5, hg⟩ := hrel; by_cases hlt : k < n
  ·obtain ⟨x, hx⟩ : ∃ x, l[k]? = some x := ⟨_, List.getElem?_eq_getElem (by rw [Hn.out]; exact hlt)⟩
   obtain ⟨hw0, hw1⟩ := HW.out x (List.mem_of_getElem? hx); obtain ⟨q0, q1, q2⟩ := Hcell.out k x hx; have hbr := below_gbG Hb3.out hg (by omega)
   have p0 := below_cell hbr q0; have p1 := below_cell hbr q1; have p2 := below_cell hbr q2; have HS := Lib.hid (sumO_snoc hx); obtain ⟨hs0, hs1⟩ := HSB.out k; generalize sumO (l.take k) = s0 at H5 HS hs0 hs1
   have hX5l := lt_of_heap H5.out; obtain ⟨wA, hwA⟩ : ∃ wA, wA = wr.alloc (.cells #[.string x.player, .int .i64 x.worth, .int .i64 x.rank] 74) := ⟨_, rfl⟩
   obtain ⟨X7, hX7⟩ : ∃ X7, X7 = wr.heap.size := ⟨_, rfl⟩
   have hbA : Below wr.heap.size wr wA := by rw [hwA]; exact below_alloc wr _
   have hx7 : wA.heap[X7]? = some (.cells #[.string x.player, .int .i64 x.worth, .int .i64 x.rank] 74 (0, 0)) := by rw [hwA, hX7]; exact heap_alloc_new wr _
   have h5A := cells_later H5.out hbA; have x1 := cell_at hx7 1 rfl; have y5 := cell_at h5A 0 rfl; have hfz := fun o => frozen_ofG h5A o
   have hgA := gb_trans hg (gb_below hbA (some (w.heap.size + 2))); have hgE := gb_trans hgA (gb_setCell wA (w.heap.size + 2) 0 (.int .i64 (s0 + x.worth))); have HE := Lib.hid (show (wA.setCell ⟨w.heap.size + 2, 0, none⟩ (.int .i64 (s0 + x.worth))).heap[w.heap.size + 2]? = some (.cells #[.int .i64 (sumO (l.take (k + 1)))] 3 (0, 0)) by rw [HS.out]; simp [World.setCell, Array.getElem?_modify, h5A])
   clear hx q0 q1 q2 H5 hx7 h5A hgA hbr; go_upto_region 5 with fail
   rw [← hwA, ← hX7]; clear hwA hX7 hbA p0 p1 p2; go_wp2_with fail
   go_roundw
   case rel => exact ⟨k + 1, by omega, by go_num, HE, hgE⟩
   case measure => simp [intOf]; omega
  ·obtain rfl : k = n := by omega
   obtain ⟨wB, rfl⟩ : ∃ wB, wB = wr := ⟨_, rfl⟩
   have hS0 : Hid (l.take k = l) := Lib.hid (by rw [← Hn.out, List.take_length])
   rw [hS0.out] at H5
   have hSp : 0 < sumO l := sumO_pos (fun x hx => (HW.out x hx).1) (by rw [Hn.out]; omega)
   have hSb : sumO l ≤ 120000000 := by
    have h := (HSB.out k).2; rw [hS0.out] at h
    omega
   have HLB := Lib.hid (left_bound (N := N) hN0 (fun x hx => (HW.out x hx).1) hSp)
   have HAB := Lib.hid (fun j (h : j ≤ k) => shrs_abs hN0 hN1 HW.out hSp j (by rw [Hn.out]; exact h))
   have HDR := Lib.hid (show divR N l = bump (shrs N (sumO l) l l.length) (((insL (fun i j : Fin (m + 1) => cmpRem N (sumO l) l i.val j.val) (List.finRange (m + 1))).map Fin.val).take (N - (shrs N (sumO l) l l.length).sum).toNat) by unfold divR; rw [HL.out])
   generalize sumO l = S at H5 hSp hSb HLB HAB HDR
   have hX2r := heap_gbG HX2.out hg (by omega)
   have hX3r := heap_gbG HX3.out hg (by omega)
   have hbr := below_gbG Hb3.out hg (by omega)
   have hsz : w.heap.size + 3 ≤ wB.heap.size := by have := hg.size; have := Hs3.out; omega
   have hmk1 := make_intsG k (by omega) wB
   obtain ⟨W4, hW4⟩ : ∃ W4, wB.alloc (.cells (madeCells #[.int .i64 0] k) 3) = W4 := ⟨_, rfl⟩
   have hmk2 := make_intsG k (by omega) W4
   obtain ⟨W5, hW5⟩ : ∃ W5, W4.alloc (.cells (madeCells #[.int .i64 0] k) 3) = W5 := ⟨_, rfl⟩
   rw [hW4] at hmk1
   have hs4 : W4.heap.size = wB.heap.size + 1 := by rw [← hW4]; simp
   rw [hW5] at hmk2
   have hb4 : Below wB.heap.size wB W4 := by rw [← hW4]; exact below_alloc wB _
   have hb45 : Below W4.heap.size W4 W5 := by rw [← hW5]; exact below_alloc W4 _
   have hb5 := below_step hb4 hb45
   have h8 : IntsAt W5 wB.heap.size (fillI (shr N S l) k 0) := by
    unfold IntsAt; rw [fillI_zero, ← made_ints, ← hW5, ← hW4]; exact heap_alG (heap_alloc_new wB _) _
   have h9 : IntsAt W5 W4.heap.size (fillI (fun i => (i : Int)) k 0) := by
    unfold IntsAt; rw [fillI_zero, ← made_ints, ← hW5]; exact heap_alloc_new W4 _
   obtain ⟨G8, hG8⟩ : ∃ G8, G8 = wB.heap.size := ⟨_, rfl⟩
   obtain ⟨G9, hG9⟩ : ∃ G9, G9 = W4.heap.size := ⟨_, rfl⟩
   rw [← hG8] at hmk1 h8
   rw [← hG9] at hmk2 h9
   have hG89 : G8 ≠ G9 := by omega
   have hG8w : wB.heap.size ≤ G8 := by omega
   have hG9w : wB.heap.size ≤ G9 := by omega
   have H8 := Lib.hid h8; have H9 := Lib.hid h9; have Hb5 := Lib.hid hb5; have HX2r := Lib.hid hX2r; have HX3r := Lib.hid hX3r; have y3 := cell_at hX3r 0 rfl; have y34 := below_cell hb4 y3; have y35 := below_cell hb5 y3; have y25 := below_cell hb5 (cell_at hX2r 0 rfl); clear hg HSB hW4 hW5 hs4 hG8 hG9 h8 h9 hb4 hb45 hb5 hX2r hX3r; go_upto_region 8 with fail
   go_upto_region 9 with fail
   clear hmk1 hmk2; go_wp2_with fail
   go_loopw [10, 36] (fun lf i wx => ∃ j : Nat, j ≤ k ∧ i = .int .i64 j ∧ lf = .int .i64 (N - (shrs N S l j).sum) ∧ Hid (IntsAt wx G8 (fillI (shr N S l) k j)) ∧ Hid (IntsAt wx G9 (fillI (fun i => (i : Int)) k j)) ∧ Below wB.heap.size wB wx) (fun _ i _ => k - (intOf i).toNat)
   case atStart => exact ⟨0, Nat.zero_le _, rfl, by simp [shrs], H8, H9, Hb5.out⟩
   case round =>
    clear H8 H9 Hb5 y3 y34 y35 y25; obtain ⟨j, hj, rfl, rfl, H8, H9, hb⟩ := hrel; by_cases hjt : j < k
    ·obtain ⟨x, hx⟩ : ∃ x, l[j]? = some x := ⟨_, List.getElem?_eq_getElem (by rw [Hn.out]; exact hjt)⟩
     obtain ⟨hw0, hw1⟩ := HW.out x (List.mem_of_getElem? hx); obtain ⟨q0, q1, q2⟩ := Hcell.out j x hx; have hbx := below_step hbr hb; have p0 := below_cell hbx q0; have p1 := below_cell hbx q1; have p2 := below_cell hbx q2; obtain ⟨hq, hsh0, hsh1⟩ := shr_bound (S := S) hx hN0 hN1 hw0 hw1 hSp; obtain ⟨ha0, ha1⟩ := HAB.out j (by omega)
     obtain ⟨hm0, hm1⟩ := mulB hN0 hN1 hw0 hw1; have hf8 := fillI_succ (f := shr N S l) hjt; have hf9 := fillI_succ (f := fun i => (i : Int)) hjt
     have Hss := Lib.hid (show (shrs N S l (j + 1)).sum = (shrs N S l j).sum + shr N S l j by rw [shrs_succ, List.sum_append]; simp)
     have e8 := fillI_at (f := shr N S l) (k := j) hjt; have e9 := fillI_at (f := fun i => (i : Int)) (k := j) hjt
     obtain ⟨sh, hsh⟩ : ∃ sh, shr N S l j = sh := ⟨_, rfl⟩
     rw [hsh] at hq hsh0 hsh1 hf8 Hss
     generalize (shrs N S l j).sum = s0 at Hss ha0 ha1
     obtain ⟨wA, hwA⟩ : ∃ wA, wA = wr.alloc (.cells #[.string x.player, .int .i64 x.worth, .int .i64 x.rank] 74) := ⟨_, rfl⟩
     obtain ⟨X12, hX12⟩ : ∃ X12, X12 = wr.heap.size := ⟨_, rfl⟩
     have hbA : Below wr.heap.size wr wA := by rw [hwA]; exact below_alloc wr _
     have hx12 : wA.heap[X12]? = some (.cells #[.string x.player, .int .i64 x.worth, .int .i64 x.rank] 74 (0, 0)) := by rw [hwA, hX12]; exact heap_alloc_new wr _
     have hbw := below_step hb hbA; have h8A : IntsAt wA G8 (fillI (shr N S l) k j) := cells_later H8.out hbA
     have h9A : IntsAt wA G9 (fillI (fun i => (i : Int)) k j) := cells_later H9.out hbA
     have c8 := h8A.cell e8; have c9 := h9A.cell e9; rw [if_neg (Nat.lt_irrefl j)] at c8 c9
     have z2 := below_cell hbw (cell_at HX2r.out 0 rfl); have z5 := below_cell hbw (cell_at H5.out 0 rfl); have x1 := cell_at hx12 1 rfl; have hfz8 := fun o => frozen_ofG h8A o
     have h8B := h8A.put (i := j) sh; rw [hf8] at h8B
     have hg8 := gb_setCell wA G8 j (.int .i64 sh); obtain ⟨W', hW'⟩ : ∃ W', wA.setCell ⟨G8, j, none⟩ (.int .i64 sh) = W' := ⟨_, rfl⟩
     rw [hW'] at h8B hg8
     have h9B : IntsAt W' G9 (fillI (fun i => (i : Int)) k j) := heap_gbG h9A hg8 (Ne.symm hG89)
     have c9B := gb_cell hg8 c9 (Ne.symm hG89); have c8B := h8B.cell (fillI_at (k := j + 1) hjt); rw [if_pos (Nat.lt_succ_self j), hsh] at c8B
     have hfz9 := fun o => frozen_ofG h9B o
     have h9C := h9B.put (i := j) ((j : Nat) : Int); rw [hf9] at h9C
     have hg9 := gb_setCell W' G9 j (.int .i64 ((j : Nat) : Int)); obtain ⟨W'', hW''⟩ : ∃ W'', W'.setCell ⟨G9, j, none⟩ (.int .i64 ((j : Nat) : Int)) = W'' := ⟨_, rfl⟩
     rw [hW''] at h9C hg9
     have H8C : Hid (IntsAt W'' G8 (fillI (shr N S l) k (j + 1))) := Lib.hid (heap_gbG h8B hg9 hG89)
     have c8C := gb_cell hg9 c8B hG89; have H9C := Lib.hid h9C; have hbE := below_gbG (below_gbG hbw hg8 hG8w) hg9 hG9w; have hwm : IntKind.i64.wrap (N * x.worth) = N * x.worth := IntWalk.i64_in _ (by omega)
     have hwq : IntKind.i64.wrap sh = sh := IntWalk.i64_in _ (by omega)
     have hS1 : S ≠ 0 := by omega
     clear hx q0 q1 q2 hbx H8 H9 hb h8A h9A h8B h9B h9C hg8 hg9 hx12 hf8 hf9 e8 e9 hsh hbw; go_upto_region 13 with fail
     rw [← hwA, ← hX12]; clear hwA hX12 hbA p0 p1 p2; go_wp2_with fail
     go_roundw
     case rel => exact ⟨j + 1, by omega, by go_num, by rw [Hss.out]; congr 1; omega, H8C, H9C, hbE⟩
     case measure => simp [intOf]; omega
    ·obtain rfl : j = k := by omega
     have hjm : j = m + 1 := by rw [← Hn.out, HL.out]
     have HLB2 := HLB.out; have HDR2 := HDR.out; rw [Hn.out] at HLB2 HDR2
     obtain ⟨LF, hLF⟩ : ∃ LF : Nat, N - (shrs N S l j).sum = (LF : Int) := ⟨_, (Int.toNat_of_nonneg HLB2.1).symm⟩
     rw [hLF] at HLB2 HDR2 ⊢
     rw [Int.toNat_natCast] at HDR2
     have hLFj : LF ≤ j := by omega
     have h8 : IntsAt wr G8 (shrs N S l j) := by
      have h := H8.out; rw [fillI_full] at h
      exact h
     have h9 : FinsAt wr G9 (List.finRange (m + 1)) := by
      have h := H9.out; unfold IntsAt at h
      rw [fillI_full, hjm, fin_list] at h
      exact h
     have hSHb : ∀ z ∈ shrs N S l j, 0 ≤ z ∧ z ≤ 1000000000000000 := fun z hz => by
      obtain ⟨i, hi, rfl⟩ := List.mem_map.1 hz; have hi2 : i < l.length := by rw [Hn.out]; exact List.mem_range.1 hi
      have hx := List.getElem?_eq_getElem hi2; obtain ⟨a, b⟩ := HW.out _ (List.getElem_mem hi2); exact (shr_bound (S := S) hx hN0 hN1 a b hSp).2
     obtain ⟨SH, hSH⟩ : ∃ SH, shrs N S l j = SH := ⟨_, rfl⟩
     have hSHl : SH.length = j := by rw [← hSH]; unfold shrs; simp
     rw [hSH] at h8 hSHb HDR2
     obtain ⟨W6, hW6⟩ : ∃ W6, wr.alloc (.cells #[.func (.func 143) #[] #[.pointer (some ⟨w.heap.size, 0, none⟩), .pointer (some ⟨w.heap.size + 1, 0, none⟩), .pointer (some ⟨w.heap.size + 1 + 1, 0, none⟩)]] 93) = W6 := ⟨_, rfl⟩
     obtain ⟨X13, hX13⟩ : ∃ X13, X13 = wr.heap.size := ⟨_, rfl⟩
     have hb6 : Below wr.heap.size wr W6 := by rw [← hW6]; exact below_alloc wr _
     have hF6 : W6.cell? ⟨X13, 0, none⟩ = some (.func (.func 143) #[] #[.pointer (some ⟨w.heap.size, 0, none⟩), .pointer (some ⟨w.heap.size + 1, 0, none⟩), .pointer (some ⟨w.heap.size + 1 + 1, 0, none⟩)]) := by rw [hX13, ← hW6, World.cell?_alloc_at _ _ _ _ rfl]; rfl
     have hbB6 := below_step hb hb6; have h86 : IntsAt W6 G8 SH := cells_later h8 hb6
     have h96 := h9.below hb6; have hb06 := below_step hbr hbB6
     have hDA : DivAt W6 w.heap.size (w.heap.size + 1) (w.heap.size + 1 + 1) N g off c l S := by
      refine ⟨below_cell hbB6 (cell_at HX2r.out 0 rfl), ?_, below_cell hbB6 (cell_at H5.out 0 rfl), fun i x hx => below_cell hb06 (Hcell.out i x hx).2.1⟩
      rw [Hn.out]; exact below_cell hbB6 (cell_at HX3r.out 0 rfl)
     have h8lt := lt_of_heap h8; have h9lt := h9.lt
     have DS := Lib.hid (sortStableIn_calls (fun i k : Fin (m + 1) => cmpRem N S l i.val k.val) 144 #[.pointer (some ⟨X13, 0, none⟩)] G9 j (List.finRange (m + 1)) W6 h96 (by simp; omega) (enters_of Tryz.func144 (by kernel_rfl) rfl) fun W a b hgW => by
      have ha : a.val < l.length := by rw [HL.out]; exact a.isLt
      have hb' : b.val < l.length := by rw [HL.out]; exact b.isLt
      have hxa := List.getElem?_eq_getElem ha; have hxb := List.getElem?_eq_getElem hb'; obtain ⟨a0, a1⟩ := HW.out _ (List.getElem_mem ha); obtain ⟨b0, b1⟩ := HW.out _ (List.getElem_mem hb'); exact rem2_calls _ _ _ X13 g off c N S l a.val b.val _ _ W (hDA.kept hgW (by omega) (by omega) (by omega) (by omega)) (gb_cell hgW hF6 (by omega)) hxa hxb (by rw [Hn.out]; omega) hN0 hN1 a0 a1 b0 b1 hSp (by omega))
     have hlen : (List.finRange (m + 1)).length = j := by rw [List.length_finRange, hjm]
     rw [hlen] at DS
     unfold SortedIn at DS
     have hOLl := insL_len (fun i k : Fin (m + 1) => cmpRem N S l i.val k.val) (List.finRange (m + 1))
     rw [hlen] at hOLl
     generalize insL (fun i k : Fin (m + 1) => cmpRem N S l i.val k.val) (List.finRange (m + 1)) = OL at DS HDR2 hOLl
     have HDR3 := Lib.hid HDR2; have HSl := Lib.hid hSHl; have HSB := Lib.hid hSHb; have HOL := Lib.hid hOLl; have H86 := Lib.hid h86; have Hb06 := Lib.hid hb06; have HX13 := Lib.hid hX13; have HW6 := Lib.hid hW6; have HJm := Lib.hid hjm; clear H8 H9 h8 h9 hb hLF HDR HLB HAB hSH hb6 hbB6 h96 hDA hlen HDR2 hSHl hSHb hOLl h86 hb06 HLB2 hX13 hW6 hjm; go_upto_region 18 with fail
     rw [HW6.out, ← HX13.out]; go_wp2_with fail
     refine DS.out.mono ?_; rintro e w7 ⟨rfl, h97, hg7⟩; have H87 : Hid (IntsAt w7 G8 SH) := Lib.hid (heap_gbG H86.out hg7 hG89)
     have H97 := Lib.hid h97; have hb07 := below_gbG Hb06.out hg7 (by omega)
     clear DS hF6 HW6 H86 Hb06 hg7 h97 HX13; go_wp2_with fail
     go_loopw [69] (fun i wx => ∃ q : Nat, q ≤ LF ∧ i = .int .i64 q ∧ Hid (IntsAt wx G8 (bump SH ((OL.map Fin.val).take q))) ∧ Hid (FinsAt wx G9 OL) ∧ Below w.heap.size w wx) (fun i _ => LF - (intOf i).toNat)
     case atStart => exact ⟨0, Nat.zero_le _, rfl, H87, H97, hb07⟩
     case round =>
      clear H87 H97 hb07; obtain ⟨q, hq, rfl, H8, H9, hb⟩ := hrel; by_cases hqt : q < LF
      ·obtain ⟨o, ho⟩ : ∃ o, OL[q]? = some o := ⟨_, List.getElem?_eq_getElem (by rw [HOL.out]; omega)⟩
       have hov : (OL.map Fin.val)[q]? = some o.val := by simp [ho]
       have hoj : o.val < j := by rw [HJm.out]; exact o.isLt
       have Hbs := Lib.hid (show bump SH ((OL.map Fin.val).take (q + 1)) = (bump SH ((OL.map Fin.val).take q)).set o.val ((bump SH ((OL.map Fin.val).take q))[o.val]?.getD 0 + 1) by rw [take_snocG hov, bump_snoc])
       have c9 : wr.cell? ⟨G9, q, none⟩ = some (.int .i64 ((o.val : Nat) : Int)) := by
        rw [cell_of_row wr G9 q _ 3 (0, 0) H9.out]; simp [ho, finV]
       have hbl : (bump SH ((OL.map Fin.val).take q)).length = j := by rw [bump_len, HSl.out]
       have hbb := bump_bound (B := 1000000000000012) ((OL.map Fin.val).take q) SH 1000000000000000 HSB.out (by omega) (by rw [List.length_take]; omega)
       generalize bump SH ((OL.map Fin.val).take q) = BS at H8 Hbs hbl hbb
       obtain ⟨z, hz⟩ : ∃ z, BS[o.val]? = some z := ⟨_, List.getElem?_eq_getElem (by rw [hbl]; exact hoj)⟩
       obtain ⟨hz0, hz1⟩ := hbb z (List.mem_of_getElem? hz); rw [hz] at Hbs
       have c8 := H8.out.cell hz; have hfz := fun o => frozen_ofG H8.out o
       have h8B := H8.out.put (i := o.val) (z + 1); have hg8 := gb_setCell wr G8 o.val (.int .i64 (z + 1)); have HE := Lib.hid (show IntsAt (wr.setCell ⟨G8, o.val, none⟩ (.int .i64 (z + 1))) G8 (bump SH ((OL.map Fin.val).take (q + 1))) by rw [Hbs.out]; exact h8B)
       have HE9 : Hid (FinsAt (wr.setCell ⟨G8, o.val, none⟩ (.int .i64 (z + 1))) G9 OL) := Lib.hid (heap_gbG H9.out hg8 (Ne.symm hG89))
       have hbE := below_gbG hb hg8 (by omega)
       generalize o.val = ov at c9 hoj c8 HE HE9 hbE
       clear ho hov hbl hbb hz h8B hg8 H8 H9; go_wp2_with fail
       go_roundw
       case rel => exact ⟨q + 1, by omega, by go_num, HE, HE9, hbE⟩
       case measure => simp [intOf]; omega
      ·obtain rfl : q = LF := by omega
       have HEnd := Lib.hid (show IntsAt wr G8 (divR N l) by rw [HDR3.out]; exact H8.out)
       have hlenD : (divR N l).length = j := by rw [HDR3.out, bump_len, HSl.out]
       have HlD := Lib.hid hlenD; clear H8 H9 hlenD; go_wp2_with fail
       go_ret
       exact ⟨G8, j, by rw [HlD.out]; rfl, HEnd.out, by omega, hb⟩
end Go.Proofs.YtddnnjblpgfjeaaGreatDoor
namespace Go.Proofs.YtddnnjblpgfjeaaGreatDoor
open Go.RowKit

def spanE (xs : List AsD) (ps : List PlD) (t b : Int) : Int := firstE [leagueE xs ps t, unlessE (betwB b 0 1000000) 1]
def paidO (l : List OvD) : List OvD := l.filter fun x => !decide (x.worth ≤ 0)
theorem paidO_pos {l : List OvD} {x : OvD} (h : x ∈ paidO l) : x ∈ l ∧ 0 < x.worth := by
 obtain ⟨h1, h2⟩ := List.mem_filter.1 h
 refine ⟨h1, ?_⟩
 simp at h2
 exact h2
def pairO (pd : List OvD) (sh : List Int) (k : Nat) : List PaD := (List.range k).map fun i => ⟨(ovAt pd i).player, itoaS (1 + sh[i]?.getD 0)⟩
theorem pairO_succ {pd : List OvD} {sh : List Int} {k : Nat} {x : OvD} {z : Int} (hx : pd[k]? = some x) (hz : sh[k]? = some z) : pairO pd sh (k + 1) = pairO pd sh k ++ [⟨x.player, itoaS (1 + z)⟩] := by
 unfold pairO
 rw [List.range_succ, List.map_append]
 simp [ovAt_some hx, hz]
theorem pairO_len (pd : List OvD) (sh : List Int) (k : Nat) : (pairO pd sh k).length = k := by unfold pairO; simp
/-- What Prices answers on worths. -/
def pricesV (l : List OvD) (t b : Int) : List PaD × Int :=
 if (paidO l).length = 0 then ([], 0)
 else if t * b - ((paidO l).length : Int) < 0 then ([], 12)
 else (pairO (paidO l) (divR (t * b - ((paidO l).length : Int)) (paidO l)) (paidO l).length, 0)
def PaErr (r : List PaD × Int) (w : World) (e : Ending) (w' : World) : Prop := ∃ v, OwnPa w' w.heap.size v r.1 ∧ e = .returned (.tuple #[v, .int .i64 r.2]) ∧ Below w.heap.size w w'
theorem divR_len (N : Int) (l : List OvD) : (divR N l).length = l.length := by
 unfold divR
 split
 ·rename_i h; rw [h]; rfl
 ·rw [bump_len]; unfold shrs; simp
theorem divR_bound {N : Int} {l : List OvD} (hN0 : 0 ≤ N) (hN1 : N ≤ 100000000) (hw : ∀ x ∈ l, 0 < x.worth ∧ x.worth ≤ 10000000) (hl : l.length ≤ 12) : ∀ (k : Nat) (z : Int), (divR N l)[k]? = some z → 0 ≤ z ∧ z ≤ 1000000000000100 := by
 intro k z hz
 have hlen := divR_len N l
 unfold divR at hz
 split at hz
 ·simp at hz
 ·rename_i m hm
  refine bump_bound (B := 1000000000000100) _ _ 1000000000000000 (fun y hy => ?_) (by omega) ?_ z (List.mem_of_getElem? hz)
  ·obtain ⟨i, hi, rfl⟩ := List.mem_map.1 hy
   have hi2 := List.mem_range.1 hi; obtain ⟨a, b⟩ := hw _ (List.getElem_mem hi2); exact (shr_bound (S := sumO l) (List.getElem?_eq_getElem hi2) hN0 hN1 a b (sumO_pos (fun x hx => (hw x hx).1) (by omega))).2
  ·have h1 := insL_len (fun i j : Fin (m + 1) => cmpRem N (sumO l) l i.val j.val) (List.finRange (m + 1))
   rw [List.length_take, List.length_map, h1, List.length_finRange]; omega
theorem nil_ownPa (w : World) (b : Nat) : OwnPa w b (.slice none 0 0) [] := by unfold OwnPa; simpa using World.ownsRow_nil _ _ _ _
theorem prices_wrong (lo lo' : Nat) (v u : Value) (xs : List AsD) (ps : List PlD) (t b : Int) (w : World) (hR : Ass w lo v xs) (hs : ∀ c ∈ xs, SmallA c) (hn : xs.length ≤ 1000000) (hP : Pls w lo' u ps) (hp : ∀ c ∈ ps, SmallP c) (hm : ps.length ≤ 1000000) (he : spanE xs ps t b ≠ 0) :
  Calls Tryz.prog 32 #[v, u, .int .i64 t, .int .i64 b] w (NilTwo (spanE xs ps t b) w) := by
 have D := Lib.hid (wrongLeague_calls lo lo' v u xs ps t w hR hs hn hP hp hm)
 have HE := Lib.hid (show spanE xs ps t b = firstE [leagueE xs ps t, unlessE (betwB b 0 1000000) 1] from rfl)
 obtain ⟨a, c, rfl⟩ := as_shape hR
 obtain ⟨pa, pc, rfl⟩ := pl_shape hP
 generalize leagueE xs ps t = T0 at D HE
 generalize spanE xs ps t b = E at HE he ⊢
 generalize xs.length = n at D ⊢
 generalize ps.length = m at D ⊢
 have e1 : (E != 0) = true := by simp [he]
 clear hR hs hn hP hp hm he
 go_enter Tryz.func32, Tryz.ntmps32
 go_wp2_with fail
 refine D.out.mono ?_
 rintro e w1 ⟨rfl, hb1⟩
 clear D
 go_wp2_with fail
 refine (between_calls _ _ _ _).mono ?_
 rintro e w2 ⟨rfl, rfl⟩
 go_wp2_with fail
 refine (unless_calls _ _ _).mono ?_
 rintro e w2 ⟨rfl, rfl⟩
 go_wp2_with fail
 refine (orE_calls _ 0 2 [T0, unlessE (betwB b 0 1000000) 1] _ (by simp) (by exact nums2 _ _ _ _)).mono ?_
 rintro e w3 ⟨rfl, rfl⟩
 rw [← HE.out]
 go_wp2_with fail
 go_ret2
 exact ⟨rfl, below_step hb1 (below_alloc _ _)⟩
def o32_15 : Array Go.Oper := #[
 ⟨some 55, .move (.tmp 14), 59, "worth.go:52", #[], none⟩,
 ⟨some 56, .fieldAddr 74 (.tmp 16) 0, 0, "worth.go:52", #[], none⟩,
 ⟨some 57, .load 9 (.tmp 56), 9, "worth.go:52", #[⟨1, .data⟩], none⟩,
 ⟨some 58, .move (.tmp 13), 22, "worth.go:52", #[], none⟩,
 ⟨some 59, .move (.tmp 15), 3, "worth.go:52", #[], none⟩,
 ⟨some 60, .indexAddr 22 (.tmp 58) (.tmp 59), 0, "worth.go:52", #[⟨3, .data⟩, ⟨4, .data⟩], none⟩,
 ⟨some 61, .load 3 (.tmp 60), 3, "worth.go:52", #[⟨5, .data⟩], none⟩,
 ⟨some 62, .binOp .add 3 (.const (.int .i64 1)) (.tmp 61) 3, 3, "worth.go:52", #[⟨6, .data⟩], none⟩,
 ⟨some 63, .call { callee := .value (.func 50), args := #[.tmp 62], argTypes := #[3] }, 9, "worth.go:52", #[⟨7, .data⟩], none⟩,
 ⟨some 64, .build 70 #[(0, .tmp 57), (1, .tmp 63)], 70, "worth.go:52", #[⟨2, .data⟩, ⟨8, .data⟩], none⟩,
 ⟨some 65, .buildSlice 59 1 #[(0, .tmp 64)], 59, "worth.go:52", #[⟨9, .data⟩], none⟩,
 ⟨some 66, .call { callee := .builtin .append, args := #[.tmp 55, .tmp 65], argTypes := #[59, 59] }, 59, "worth.go:52", #[⟨0, .data⟩, ⟨10, .data⟩, ⟨8, .chain⟩], none⟩,
 ⟨some 14, .assign (.tmp 66), 59, "worth.go:52", #[⟨11, .data⟩, ⟨11, .chain⟩, ⟨0, .phase⟩, ⟨1, .phase⟩, ⟨2, .phase⟩, ⟨3, .phase⟩, ⟨4, .phase⟩, ⟨5, .phase⟩, ⟨6, .phase⟩, ⟨7, .phase⟩, ⟨8, .phase⟩, ⟨9, .phase⟩, ⟨10, .phase⟩, ⟨11, .phase⟩], none⟩]
theorem o32_15_0 : o32_15[0]? = some (⟨some 55, .move (.tmp 14), 59, "worth.go:52", #[], none⟩ : Go.Oper) := rfl
theorem o32_15_1 : o32_15[1]? = some (⟨some 56, .fieldAddr 74 (.tmp 16) 0, 0, "worth.go:52", #[], none⟩ : Go.Oper) := rfl
theorem o32_15_2 : o32_15[2]? = some (⟨some 57, .load 9 (.tmp 56), 9, "worth.go:52", #[⟨1, .data⟩], none⟩ : Go.Oper) := rfl
theorem o32_15_3 : o32_15[3]? = some (⟨some 58, .move (.tmp 13), 22, "worth.go:52", #[], none⟩ : Go.Oper) := rfl
theorem o32_15_4 : o32_15[4]? = some (⟨some 59, .move (.tmp 15), 3, "worth.go:52", #[], none⟩ : Go.Oper) := rfl
theorem o32_15_5 : o32_15[5]? = some (⟨some 60, .indexAddr 22 (.tmp 58) (.tmp 59), 0, "worth.go:52", #[⟨3, .data⟩, ⟨4, .data⟩], none⟩ : Go.Oper) := rfl
theorem o32_15_6 : o32_15[6]? = some (⟨some 61, .load 3 (.tmp 60), 3, "worth.go:52", #[⟨5, .data⟩], none⟩ : Go.Oper) := rfl
theorem o32_15_7 : o32_15[7]? = some (⟨some 62, .binOp .add 3 (.const (.int .i64 1)) (.tmp 61) 3, 3, "worth.go:52", #[⟨6, .data⟩], none⟩ : Go.Oper) := rfl
theorem o32_15_8 : o32_15[8]? = some (⟨some 63, .call { callee := .value (.func 50), args := #[.tmp 62], argTypes := #[3] }, 9, "worth.go:52", #[⟨7, .data⟩], none⟩ : Go.Oper) := rfl
theorem o32_15_9 : o32_15[9]? = some (⟨some 64, .build 70 #[(0, .tmp 57), (1, .tmp 63)], 70, "worth.go:52", #[⟨2, .data⟩, ⟨8, .data⟩], none⟩ : Go.Oper) := rfl
theorem o32_15_10 : o32_15[10]? = some (⟨some 65, .buildSlice 59 1 #[(0, .tmp 64)], 59, "worth.go:52", #[⟨9, .data⟩], none⟩ : Go.Oper) := rfl
theorem o32_15_11 : o32_15[11]? = some (⟨some 66, .call { callee := .builtin .append, args := #[.tmp 55, .tmp 65], argTypes := #[59, 59] }, 59, "worth.go:52", #[⟨0, .data⟩, ⟨10, .data⟩, ⟨8, .chain⟩], none⟩ : Go.Oper) := rfl
theorem o32_15_12 : o32_15[12]? = some (⟨some 14, .assign (.tmp 66), 59, "worth.go:52", #[⟨11, .data⟩, ⟨11, .chain⟩, ⟨0, .phase⟩, ⟨1, .phase⟩, ⟨2, .phase⟩, ⟨3, .phase⟩, ⟨4, .phase⟩, ⟨5, .phase⟩, ⟨6, .phase⟩, ⟨7, .phase⟩, ⟨8, .phase⟩, ⟨9, .phase⟩, ⟨10, .phase⟩, ⟨11, .phase⟩], none⟩ : Go.Oper) := rfl
theorem o32_15_ns : Go.Region.noSelect o32_15 = true := by kernel_rfl
set_option maxRecDepth 100000 in
set_option maxHeartbeats 8000000 in
theorem prices_right (lo lo' : Nat) (v u : Value) (xs : List AsD) (ps : List PlD) (t b : Int) (w : World) (hv : Ass w lo v xs) (hP : Pls w lo' u ps) (hn : xs.length ≤ 12) (hs : ∀ x ∈ xs, SmallA x) (hf : ∀ x ∈ xs, FitA x) (hp : ∀ y ∈ ps, SmallP y) (hp2 : ∀ y ∈ ps, 0 ≤ y.many ∧ y.many ≤ 12) (hm : ps.length ≤ 10) (ht1 : 1 ≤ t) (ht2 : t ≤ 20) (hb0 : 0 ≤ b) (hb1 : b ≤ 1000000)
  (hL : ∀ k l, lvK (vOf (rank xs)) t ps ps.length k = some l → -1000000 ≤ l ∧ l ≤ 1000000) (hlg : leagueE xs ps t = 0) (OUT : List OvD) (hO : rkTo (insL cmpO (overP (lvK (vOf (rank xs)) t ps ps.length) xs)) (insL cmpO (overP (lvK (vOf (rank xs)) t ps ps.length) xs)).length = OUT)
  (hOl : OUT.length ≤ 12) (hOw : ∀ x ∈ OUT, x.worth ≤ 10000000) (hD : DigB w) :
  Calls Tryz.prog 32 #[v, u, .int .i64 t, .int .i64 b] w (PaErr (pricesV OUT t b) w) := by
 obtain ⟨i0, hi, hz0, hz1, hz2⟩ := info_parts info_Pa
 have D := Lib.hid (wrongLeague_calls lo lo' v u xs ps t w hv hs (by omega) hP hp (by omega))
 rw [hlg] at D
 have D2 := Lib.hid (fun W (hb : Below w.heap.size w W) => worthsOf_calls lo lo' v u xs ps t W (hv.below hb) (hP.below hb) hn hs hf hp hp2 hm ht1 ht2 hL)
 rw [hO] at D2
 have HD := Lib.hid hD
 have HB : Hid (betwB b 0 1000000 = true) := Lib.hid (by unfold betwB; simp [hb0, hb1])
 have HPV := Lib.hid (show pricesV OUT t b = if (paidO OUT).length = 0 then ([], 0) else if t * b - ((paidO OUT).length : Int) < 0 then ([], 12) else (pairO (paidO OUT) (divR (t * b - ((paidO OUT).length : Int)) (paidO OUT)) (paidO OUT).length, 0) from rfl)
 generalize pricesV OUT t b = PV at HPV ⊢
 have hmul0 : 0 ≤ t * b := Int.mul_nonneg (by omega) hb0
 have hmul1 : t * b ≤ 20000000 := by have h1 := Int.mul_le_mul ht2 hb1 hb0 (by omega); omega
 have HPW := Lib.hid (fun x (h : x ∈ paidO OUT) => show 0 < x.worth ∧ x.worth ≤ 10000000 from ⟨(paidO_pos h).2, hOw x (paidO_pos h).1⟩)
 have hpl : (paidO OUT).length ≤ 12 := Nat.le_trans (List.length_filter_le _ _) hOl
 obtain ⟨a, c, rfl⟩ := as_shape hv
 obtain ⟨pa, pc, rfl⟩ := pl_shape hP
 generalize xs.length = nx at *
 generalize ps.length = np at *
 clear hv hP hs hf hp hp2 hL hO hlg hOw hD hn hm
 go_enter Tryz.func32, Tryz.ntmps32
 go_wp2_with fail
 refine D.out.mono ?_
 rintro e w1 ⟨rfl, hb01⟩
 clear D
 go_wp2_with fail
 refine (between_calls _ _ _ _).mono ?_
 rintro e w2 ⟨rfl, rfl⟩
 rw [HB.out]
 go_wp2_with fail
 refine (unless_calls _ _ _).mono ?_
 rintro e w2 ⟨rfl, rfl⟩
 go_wp2_with fail
 refine (orE_calls _ 0 2 [0, unlessE true 1] _ (by simp) (by exact nums2 _ _ _ _)).mono ?_
 rintro e w3 ⟨rfl, rfl⟩
 rw [show firstE [0, unlessE true 1] = 0 from rfl]
 obtain ⟨w1b, hw1b⟩ : ∃ x, x = w1.alloc (.cells #[.int .i64 0, .int .i64 (unlessE true 1)] 34) := ⟨_, rfl⟩
 have hb1b : Below w.heap.size w w1b := by rw [hw1b]; exact below_step hb01 (below_alloc w1 _)
 rw [← hw1b]
 clear hw1b hb01 HB
 have E2 := Lib.hid (D2.out w1b hb1b)
 clear D2
 go_wp2_with fail
 refine E2.out.mono ?_
 rintro e w2 ⟨v2, hfr, rfl, hb2⟩
 have hb02 := below_step hb1b hb2
 clear E2
 rcases hfr with ⟨rfl, rfl⟩ | ⟨g, off, cc, rfl, hr, hcc, hl⟩
 ·have HR := Lib.hid (show PV = ([], 0) by rw [HPV.out]; simp [paidO])
  go_wp2_with fail
  refine (deleteOv0_calls 95 #[] (fun x => decide (x.worth ≤ 0)) w2 (enters_of Tryz.func95 (by kernel_rfl) rfl) fun W x _ => prices1_calls x W).mono ?_
  rintro e w3 ⟨rfl, hb3⟩; have hbe := below_step hb02 hb3; go_wp2_with fail
  go_ret2
  exact ⟨_, by rw [HR.out]; exact nil_ownPa _ _, by rw [HR.out]; rfl, hbe⟩
 ·have DD := Lib.hid (deleteOv_calls 95 #[] (fun x => decide (x.worth ≤ 0)) 0 g off cc OUT w2 hr (by omega) hcc (Nat.zero_le _) (enters_of Tryz.func95 (by kernel_rfl) rfl) fun W x _ => prices1_calls x W)
  unfold LeftOv at DD
  have HPO := Lib.hid (show (OUT.filter fun x => !decide (x.worth ≤ 0)) = paidO OUT from rfl)
  rw [HPO.out] at DD
  generalize paidO OUT = PD at DD HPV HPW hpl
  clear HPO hr hcc; go_wp2_with fail
  refine DD.out.mono ?_; rintro e w3 ⟨c3, rfl, hr3, hc3, hg3⟩; have hgw : w.heap.size ≤ g := Nat.le_trans hb1b.size hl
  have hb03 := below_gbG hb02 hg3 hgw; obtain ⟨n, hn⟩ : ∃ n, PD.length = n := ⟨_, rfl⟩
  have Hn := Lib.hid hn; rw [hn] at HPV hpl hc3 ⊢
  clear DD hg3 hb02 hb2 hn; by_cases hn0 : n = 0
  ·subst hn0
   have HR := Lib.hid (show PV = ([], 0) by rw [HPV.out, if_pos rfl])
   go_wp2_with fail
   go_ret2
   exact ⟨_, by rw [HR.out]; exact nil_ownPa _ _, by rw [HR.out]; rfl, hb03⟩
  ·have e0 : ((n : Int) == 0) = false := by rw [beq_eq_false_iff_ne]; omega
   obtain ⟨tb, htb⟩ : ∃ tb, t * b = tb := ⟨_, rfl⟩
   rw [htb] at hmul0 hmul1 HPV
   have hwm : IntKind.i64.wrap tb = tb := IntWalk.i64_in _ (by omega)
   have hws : IntKind.i64.wrap (tb - (n : Int)) = tb - (n : Int) := IntWalk.i64_in _ (by omega)
   by_cases hneg : tb - (n : Int) < 0
   ·have e1 : decide (tb - (n : Int) < 0) = true := decide_eq_true hneg
    have HR := Lib.hid (show PV = ([], 12) by rw [HPV.out, if_neg hn0, if_pos hneg])
    go_wp2_with fail
    go_ret2
    exact ⟨_, by rw [HR.out]; exact nil_ownPa _ _, by rw [HR.out]; rfl, hb03⟩
   ·have e1 : decide (tb - (n : Int) < 0) = false := decide_eq_false hneg
    have HR := Lib.hid (show PV = (pairO PD (divR (tb - (n : Int)) PD) n, 0) by rw [HPV.out, if_neg hn0, if_neg hneg])
    have hV3 : Ovs w3 w.heap.size (.slice (some ⟨g, off, none⟩) PD.length c3) PD := FreshOv.ovs (.inr ⟨g, off, c3, rfl, hr3, by rw [Hn.out]; exact hc3, hgw⟩) (by rw [Hn.out]; omega)
    have DV := Lib.hid (divided_calls w.heap.size _ PD (tb - (n : Int)) (n - 1) w3 hV3 (by rw [Hn.out]; omega) (by omega) HPW.out (by omega) (by omega))
    rw [Hn.out] at DV
    obtain ⟨DVL, hDVL⟩ : ∃ DVL, divR (tb - (n : Int)) PD = DVL := ⟨_, rfl⟩
    rw [hDVL] at DV HR
    have hDb : ∀ (k : Nat) (z : Int), DVL[k]? = some z → 0 ≤ z ∧ z ≤ 1000000000000100 := by
     rw [← hDVL]; exact divR_bound (by omega) (by omega) HPW.out (by rw [Hn.out]; omega)
    have hDl : DVL.length = n := by rw [← hDVL, divR_len, Hn.out]
    have HDb := Lib.hid hDb; have HDl := Lib.hid hDl; have HV3 := Lib.hid hV3; clear hDVL hDb hDl hV3 hr3 HPW; go_wp2_with fail
    refine DV.out.mono ?_; rintro e wB ⟨G8, c8, rfl, hI8, hG8, hb4⟩; have hbB := below_step hb03 hb4; have hOvB := HV3.out.below hb4; rw [HDl.out]; have H8B := Lib.hid hI8; have HOvB := Lib.hid hOvB; clear DV HV3 hI8 hOvB hb4 hb03; go_wp2_with fail
    go_loopw [14, 50] (fun q i wr => ∃ k : Nat, k ≤ n ∧ i = .int .i64 k ∧ Hid (OwnPa wr wB.heap.size q (pairO PD DVL k)) ∧ Below wB.heap.size wB wr) (fun _ i _ => n - (intOf i).toNat)
    case atStart => exact ⟨0, Nat.zero_le _, rfl, Lib.hid (by simpa [pairO, OwnPa] using World.ownsRow_nil _ _ _ _), Below.refl _ _⟩
    case round =>
     obtain ⟨k, hk, rfl, Hown, hb⟩ := hrel; by_cases hlt : k < n
     ·obtain ⟨x, hx⟩ : ∃ x, PD[k]? = some x := ⟨_, List.getElem?_eq_getElem (by rw [Hn.out]; exact hlt)⟩
      obtain ⟨z, hz⟩ : ∃ z, DVL[k]? = some z := ⟨_, List.getElem?_eq_getElem (by rw [HDl.out]; exact hlt)⟩
      obtain ⟨hzb0, hzb1⟩ := HDb.out k z hz; have hst := pairO_succ hx hz; have hni : Int64 (1 + z) := by unfold Int64; omega
      have hwz : IntKind.i64.wrap (1 + z) = 1 + z := IntWalk.i64_in _ (by omega)
      have Hst := Lib.hid hst; rcases ov_at HOvB.out with ⟨_, h⟩ | ⟨g2, off2, cap2, e, _, hgl, _, hcell⟩
      ·rw [h] at hx; simp at hx
      have e' : g2 = g ∧ off2 = off := by simp only [Value.slice.injEq, Option.some.injEq, Addr.mk.injEq] at e; exact ⟨e.1.1.symm, e.1.2.1.symm⟩
      obtain ⟨rfl, rfl⟩ := e'; obtain ⟨q0, q1, q2⟩ := hcell k x hx; have p0 := below_cell hb q0; have p1 := below_cell hb q1; have p2 := below_cell hb q2; have g8B := H8B.out.cell hz; obtain ⟨wA, hwA⟩ : ∃ wA, wA = wr.alloc (.cells #[.string x.player, .int .i64 x.worth, .int .i64 x.rank] 74) := ⟨_, rfl⟩
      obtain ⟨X16, hX16⟩ : ∃ X16, X16 = wr.heap.size := ⟨_, rfl⟩
      have hbA : Below wr.heap.size wr wA := by rw [hwA]; exact below_alloc wr _
      have hx16 : wA.heap[X16]? = some (.cells #[.string x.player, .int .i64 x.worth, .int .i64 x.rank] 74 (0, 0)) := by rw [hwA, hX16]; exact heap_alloc_new wr _
      have hbW := below_step hb hbA; have hbw := below_step hbB hbW; have HO := Lib.hid (own_belowG Hown.out hbA); have HX16 := Lib.hid hx16; have x0 := cell_at hx16 0 rfl; have g8A := below_cell hbW g8B; have hcl : (pairO PD DVL k).length ≤ 12 := by rw [pairO_len]; omega
      generalize pairO PD DVL k = C0 at HO Hst hcl
      have HS := Lib.hid (show ∀ w', Below wA.heap.size wA w' → (True ∧ w'.cell? ⟨X16, 0, none⟩ = some (.string x.player) ∧ w'.cell? ⟨G8, k, none⟩ = some (.int .i64 z)) from fun w' hb => ⟨trivial, below_cell hb x0, below_cell hb g8A⟩)
      have hbd := (Below.refl wA.heap.size wA).drew; clear hcell q0 q1 q2 hb hx hz Hown hst e hx16; go_upto_region 15 with fail
      rw [← hwA, ← hX16]; clear hwA hX16 hbA p0 p1 p2 x0 g8A; show Code.wp _ (Code.region 15 o32_15 true) _ _ _
      refine region_start 13 (fun w' => True ∧ w'.cell? ⟨X16, 0, none⟩ = some (.string x.player) ∧ w'.cell? ⟨G8, k, none⟩ = some (.int .i64 z)) (by kernel_rfl) rfl ?_ (fun hHeld => ?_)
      ·(exact HS.out _ (by first | exact hbd | exact hb07 | exact below_step hb07 (below_alloc _ _)))
      refine take_to 0 55 (bQ 13 1) (v := ?_) o32_15_0 rfl o32_15_ns (by kernel_rfl) (by kernel_rfl) (fun _ _ _ h => h) (by rfl) ?y0q (by assumption) ?_
      case y0q => intro w h; (try dsimp only at h); go_simp; try with_reducible rfl
      simp only [sE0, sE1]; refine take_to 1 56 (bQ 13 3) (v := ?_) o32_15_1 rfl o32_15_ns (by kernel_rfl) (by kernel_rfl) (fun _ _ _ h => h) (by rfl) ?y1q (by assumption) ?_
      case y1q => intro w h; (try dsimp only at h); go_simp; try with_reducible rfl
      simp only [sE0, sE1]; refine take_to 2 57 (bQ 13 7) (v := ?_) o32_15_2 rfl o32_15_ns (by kernel_rfl) (by kernel_rfl) (fun _ _ _ h => h) (by rfl) ?y2q (by assumption) ?_
      case y2q => intro w h; (try dsimp only at h); go_simp; try with_reducible rfl
      simp only [sE0, sE1]; refine take_to 3 58 (bQ 13 15) (v := ?_) o32_15_3 rfl o32_15_ns (by kernel_rfl) (by kernel_rfl) (fun _ _ _ h => h) (by rfl) ?y3q (by assumption) ?_
      case y3q => intro w h; (try dsimp only at h); go_simp; try with_reducible rfl
      simp only [sE0, sE1]; refine take_to 4 59 (bQ 13 31) (v := ?_) o32_15_4 rfl o32_15_ns (by kernel_rfl) (by kernel_rfl) (fun _ _ _ h => h) (by rfl) ?y4q (by assumption) ?_
      case y4q => intro w h; (try dsimp only at h); go_simp; try with_reducible rfl
      simp only [sE0, sE1]; refine take_to 5 60 (bQ 13 63) (v := ?_) o32_15_5 rfl o32_15_ns (by kernel_rfl) (by kernel_rfl) (fun _ _ _ h => h) (by rfl) ?y5q (by assumption) ?_
      case y5q => intro w h; (try dsimp only at h); go_simp; try with_reducible rfl
      simp only [sE0, sE1]; refine take_to 6 61 (bQ 13 127) (v := ?_) o32_15_6 rfl o32_15_ns (by kernel_rfl) (by kernel_rfl) (fun _ _ _ h => h) (by rfl) ?y6q (by assumption) ?_
      case y6q => intro w h; (try dsimp only at h); go_simp; try with_reducible rfl
      simp only [sE0, sE1]; refine take_to 7 62 (bQ 13 255) (v := .int .i64 (1 + z)) o32_15_7 rfl o32_15_ns (by kernel_rfl) (by kernel_rfl) (fun _ _ _ h => h) (by rfl) ?y7q (by assumption) ?_
      case y7q =>
       intro w hSw; try dsimp only at hSw
       go_simp; try rw [hwz]
       try with_reducible rfl
      simp only [sE0, sE1]; refine run_to 8 (bQ 13 511) o32_15_8 (by kernel_rfl) (by kernel_rfl) (by rfl) (fun K hK => ?_)
      go_simp; refine (itoa_calls (1 + z) _ hni (HD.out _ (below_step hbw hbd))).mono ?_; rintro e w7 ⟨rfl, hb7⟩; have hb07 := below_step hbd hb7; go_wp2_with fail
      refine hK.out _ _ ?_ (fun hHeld => ?_)
      ·(exact HS.out _ (by first | exact hbd | exact hb07 | exact below_step hb07 (below_alloc _ _)))
      clear hK K; try simp only [Act.put, sEt, sE0, sE1]
      refine run_to 9 (bQ 13 1023) o32_15_9 (by kernel_rfl) (by kernel_rfl) (by rfl) (fun K hK => ?_)
      go_simp; refine hK.out _ _ ?_ (fun hHeld => ?_)
      ·(exact HS.out _ (by first | exact hbd | exact hb07 | exact below_step hb07 (below_alloc _ _)))
      clear hK K; try simp only [Act.put, sEt, sE0, sE1]
      refine run_to 10 (bQ 13 2047) o32_15_10 (by kernel_rfl) (by kernel_rfl) (by rfl) (fun K hK => ?_)
      go_simp; refine hK.out _ _ ?_ (fun hHeld => ?_)
      ·(exact HS.out _ (by first | exact hbd | exact hb07 | exact below_step hb07 (below_alloc _ _)))
      clear hK K; try simp only [Act.put, sEt, sE0, sE1]
      refine run_to 11 (bQ 13 4095) o32_15_11 (by kernel_rfl) (by kernel_rfl) (by rfl) (fun K hK => ?_)
      have hownB := World.ownsRow.alloc (own_belowG HO.out hb07) (.cells #[.string x.player, .string (itoaS (1 + z))] 70); refine wp_append_at _ (.tmp 55) (.tmp 65) 59 rfl wB.heap.size 70 i0 (.agg #[.string ⟨#[]⟩, .string ⟨#[]⟩]) 2 32 Tryz.underlying59 hi hz0 hz1 hz2 rfl (by decide) _ C0.length _ rfl hownB _ 1 1 [.string x.player, .string (itoaS (1 + z))] rfl rfl (cells_newG w7 [.string x.player, .string (itoaS (1 + z))] _) (by simp [Value.oneCell']) (by unfold maxLen; omega) (by omega) (by have h1 := hb07.size; have h2 := hbW.size; simp; omega) ?_
      intro v2 w2 hown2 hgrow; have hb08 := below_step hb07 (below_alloc w7 (.cells #[.string x.player, .string (itoaS (1 + z))] 70)); have hbF := (below_step hbW hb08).grown hgrow (by have h1 := hb08.size; have h2 := hbW.size; omega) fun r hr => (own_block hownB r hr).1
      have hx16 := cells_later HX16.out hb08; have hx16E := (hgrow.block X16 (lt_of_heap hx16) (fun e => by obtain ⟨_, cur, hc⟩ := own_block hownB _ e.symm; rw [hx16] at hc; simp at hc)).trans hx16
      skip
      refine hK.out _ _ ?_ (fun hHeld => ?_)
      ·(exact ⟨trivial, cell_at hx16E 0 rfl, below_cell hbF g8B⟩)
      clear hK K; try simp only [Act.put, sEt, sE0, sE1]
      refine take_to 12 14 (bQ 13 8191) (v := ?_) o32_15_12 rfl o32_15_ns (by kernel_rfl) (by kernel_rfl) (fun _ _ _ h => h) (by rfl) ?y12q (by assumption) ?_
      case y12q => intro w h; (try dsimp only at h); go_simp; try with_reducible rfl
      simp only [sE0, sE1]; refine wpAnyH_done (by kernel_rfl) ?_ _
      have HO5 : Hid (OwnPa w2 wB.heap.size v2 (pairO PD DVL (k + 1))) := Lib.hid (by
       rw [Hst.out]; unfold OwnPa
       have e : ((C0 ++ [(⟨x.player, itoaS (1 + z)⟩ : PaD)]).map paRow).flatten = (C0.map paRow).flatten ++ [.string x.player, .string (itoaS (1 + z))] := by simp [paRow]
       rw [e, List.length_append, List.length_singleton]; exact hown2)
      clear hgrow hown2 hownB hHeld HS hx16 hx16E; go_wp2_with fail
      go_roundw
      case rel => exact ⟨k + 1, by omega, by go_num, HO5, hbF⟩
      case measure => simp [intOf]; omega
     ·obtain rfl : k = n := by omega
      have HO5 := Lib.hid (show OwnPa wr w.heap.size _ (pairO PD DVL k) from own_lowerG Hown.out hbB.size)
      have hbe := below_step hbB hb; clear Hown; go_wp2_with fail
      go_ret2
      exact ⟨_, by rw [HR.out]; exact HO5.out, by rw [HR.out]; rfl, hbe⟩
end Go.Proofs.YtddnnjblpgfjeaaGreatDoor
