/- Prices: the reference's way. -/
import Derived.Test.YtddnnjblpgfjeaaGreatDoorMgba
namespace Go.Proofs.YtddnnjblpgfjeaaGreatDoor
open Go.RowKit

def o35_30 : Array Go.Oper := #[
 ⟨some 111, .move (.tmp 22), 59, "values.go:121", #[], none⟩,
 ⟨some 112, .fieldAddr 74 (.tmp 24) 0, 0, "values.go:121", #[], none⟩,
 ⟨some 113, .load 9 (.tmp 112), 9, "values.go:121", #[⟨1, .data⟩], none⟩,
 ⟨some 114, .move (.tmp 15), 22, "values.go:121", #[], none⟩,
 ⟨some 115, .move (.tmp 23), 3, "values.go:121", #[], none⟩,
 ⟨some 116, .indexAddr 22 (.tmp 114) (.tmp 115), 0, "values.go:121", #[⟨3, .data⟩, ⟨4, .data⟩], none⟩,
 ⟨some 117, .load 3 (.tmp 116), 3, "values.go:121", #[⟨5, .data⟩], none⟩,
 ⟨some 118, .binOp .add 3 (.tmp 117) (.const (.int .i64 1)) 3, 3, "values.go:121", #[⟨6, .data⟩], none⟩,
 ⟨some 119, .call { callee := .value (.func 50), args := #[.tmp 118], argTypes := #[3] }, 9, "values.go:121", #[⟨7, .data⟩], none⟩,
 ⟨some 120, .build 70 #[(0, .tmp 113), (1, .tmp 119)], 70, "values.go:121", #[⟨2, .data⟩, ⟨8, .data⟩], none⟩,
 ⟨some 121, .buildSlice 59 1 #[(0, .tmp 120)], 59, "values.go:121", #[⟨9, .data⟩], none⟩,
 ⟨some 122, .call { callee := .builtin .append, args := #[.tmp 111, .tmp 121], argTypes := #[59, 59] }, 59, "values.go:121", #[⟨0, .data⟩, ⟨10, .data⟩, ⟨8, .chain⟩], none⟩,
 ⟨some 22, .assign (.tmp 122), 59, "values.go:121", #[⟨11, .data⟩, ⟨11, .chain⟩, ⟨0, .phase⟩, ⟨1, .phase⟩, ⟨2, .phase⟩, ⟨3, .phase⟩, ⟨4, .phase⟩, ⟨5, .phase⟩, ⟨6, .phase⟩, ⟨7, .phase⟩, ⟨8, .phase⟩, ⟨9, .phase⟩, ⟨10, .phase⟩, ⟨11, .phase⟩], none⟩]
theorem o35_30_0 : o35_30[0]? = some (⟨some 111, .move (.tmp 22), 59, "values.go:121", #[], none⟩ : Go.Oper) := rfl
theorem o35_30_1 : o35_30[1]? = some (⟨some 112, .fieldAddr 74 (.tmp 24) 0, 0, "values.go:121", #[], none⟩ : Go.Oper) := rfl
theorem o35_30_2 : o35_30[2]? = some (⟨some 113, .load 9 (.tmp 112), 9, "values.go:121", #[⟨1, .data⟩], none⟩ : Go.Oper) := rfl
theorem o35_30_3 : o35_30[3]? = some (⟨some 114, .move (.tmp 15), 22, "values.go:121", #[], none⟩ : Go.Oper) := rfl
theorem o35_30_4 : o35_30[4]? = some (⟨some 115, .move (.tmp 23), 3, "values.go:121", #[], none⟩ : Go.Oper) := rfl
theorem o35_30_5 : o35_30[5]? = some (⟨some 116, .indexAddr 22 (.tmp 114) (.tmp 115), 0, "values.go:121", #[⟨3, .data⟩, ⟨4, .data⟩], none⟩ : Go.Oper) := rfl
theorem o35_30_6 : o35_30[6]? = some (⟨some 117, .load 3 (.tmp 116), 3, "values.go:121", #[⟨5, .data⟩], none⟩ : Go.Oper) := rfl
theorem o35_30_7 : o35_30[7]? = some (⟨some 118, .binOp .add 3 (.tmp 117) (.const (.int .i64 1)) 3, 3, "values.go:121", #[⟨6, .data⟩], none⟩ : Go.Oper) := rfl
theorem o35_30_8 : o35_30[8]? = some (⟨some 119, .call { callee := .value (.func 50), args := #[.tmp 118], argTypes := #[3] }, 9, "values.go:121", #[⟨7, .data⟩], none⟩ : Go.Oper) := rfl
theorem o35_30_9 : o35_30[9]? = some (⟨some 120, .build 70 #[(0, .tmp 113), (1, .tmp 119)], 70, "values.go:121", #[⟨2, .data⟩, ⟨8, .data⟩], none⟩ : Go.Oper) := rfl
theorem o35_30_10 : o35_30[10]? = some (⟨some 121, .buildSlice 59 1 #[(0, .tmp 120)], 59, "values.go:121", #[⟨9, .data⟩], none⟩ : Go.Oper) := rfl
theorem o35_30_11 : o35_30[11]? = some (⟨some 122, .call { callee := .builtin .append, args := #[.tmp 111, .tmp 121], argTypes := #[59, 59] }, 59, "values.go:121", #[⟨0, .data⟩, ⟨10, .data⟩, ⟨8, .chain⟩], none⟩ : Go.Oper) := rfl
theorem o35_30_12 : o35_30[12]? = some (⟨some 22, .assign (.tmp 122), 59, "values.go:121", #[⟨11, .data⟩, ⟨11, .chain⟩, ⟨0, .phase⟩, ⟨1, .phase⟩, ⟨2, .phase⟩, ⟨3, .phase⟩, ⟨4, .phase⟩, ⟨5, .phase⟩, ⟨6, .phase⟩, ⟨7, .phase⟩, ⟨8, .phase⟩, ⟨9, .phase⟩, ⟨10, .phase⟩, ⟨11, .phase⟩], none⟩ : Go.Oper) := rfl
theorem o35_30_ns : Go.Region.noSelect o35_30 = true := by kernel_rfl
def o35_13 : Array Go.Oper := #[
 ⟨some 52, .load 62 (.tmp 10), 62, "values.go:110", #[], none⟩,
 ⟨some 53, .call { callee := .builtin .len, args := #[.tmp 52], argTypes := #[62] }, 3, "values.go:110", #[⟨0, .data⟩], none⟩,
 ⟨some 54, .makeSlice 22 (.tmp 53) (.tmp 53), 22, "values.go:110", #[⟨1, .data⟩, ⟨1, .data⟩], none⟩,
 ⟨some 55, .load 62 (.tmp 10), 62, "values.go:110", #[], none⟩,
 ⟨some 56, .call { callee := .builtin .len, args := #[.tmp 55], argTypes := #[62] }, 3, "values.go:110", #[⟨3, .data⟩], none⟩,
 ⟨some 57, .makeSlice 22 (.tmp 56) (.tmp 56), 22, "values.go:110", #[⟨4, .data⟩, ⟨4, .data⟩], none⟩,
 ⟨some 58, .load 3 (.tmp 11), 3, "values.go:110", #[⟨8, .gcOnly .lateStores⟩], none⟩,
 ⟨some 15, .assign (.tmp 54), 22, "values.go:110", #[⟨2, .data⟩, ⟨0, .phase⟩, ⟨1, .phase⟩, ⟨2, .phase⟩, ⟨3, .textOnly .lateStores⟩, ⟨4, .textOnly .lateStoresUnsure⟩, ⟨5, .textOnly .lateStoresUnsure⟩, ⟨6, .textOnly .lateStores⟩], none⟩,
 ⟨some 16, .assign (.tmp 57), 22, "values.go:110", #[⟨5, .data⟩, ⟨7, .chain⟩, ⟨0, .phase⟩, ⟨1, .phase⟩, ⟨2, .phase⟩, ⟨3, .phase⟩, ⟨4, .phase⟩, ⟨5, .phase⟩, ⟨6, .textOnly .lateStores⟩, ⟨7, .phase⟩], none⟩,
 ⟨some 17, .assign (.tmp 58), 3, "values.go:110", #[⟨6, .data⟩, ⟨8, .chain⟩, ⟨0, .phase⟩, ⟨1, .phase⟩, ⟨2, .phase⟩, ⟨3, .phase⟩, ⟨4, .phase⟩, ⟨5, .phase⟩, ⟨6, .phase⟩, ⟨7, .phase⟩, ⟨8, .phase⟩], none⟩]
theorem o35_13_0 : o35_13[0]? = some (⟨some 52, .load 62 (.tmp 10), 62, "values.go:110", #[], none⟩ : Go.Oper) := rfl
theorem o35_13_1 : o35_13[1]? = some (⟨some 53, .call { callee := .builtin .len, args := #[.tmp 52], argTypes := #[62] }, 3, "values.go:110", #[⟨0, .data⟩], none⟩ : Go.Oper) := rfl
theorem o35_13_2 : o35_13[2]? = some (⟨some 54, .makeSlice 22 (.tmp 53) (.tmp 53), 22, "values.go:110", #[⟨1, .data⟩, ⟨1, .data⟩], none⟩ : Go.Oper) := rfl
theorem o35_13_3 : o35_13[3]? = some (⟨some 55, .load 62 (.tmp 10), 62, "values.go:110", #[], none⟩ : Go.Oper) := rfl
theorem o35_13_4 : o35_13[4]? = some (⟨some 56, .call { callee := .builtin .len, args := #[.tmp 55], argTypes := #[62] }, 3, "values.go:110", #[⟨3, .data⟩], none⟩ : Go.Oper) := rfl
theorem o35_13_5 : o35_13[5]? = some (⟨some 57, .makeSlice 22 (.tmp 56) (.tmp 56), 22, "values.go:110", #[⟨4, .data⟩, ⟨4, .data⟩], none⟩ : Go.Oper) := rfl
theorem o35_13_6 : o35_13[6]? = some (⟨some 58, .load 3 (.tmp 11), 3, "values.go:110", #[⟨8, .gcOnly .lateStores⟩], none⟩ : Go.Oper) := rfl
theorem o35_13_7 : o35_13[7]? = some (⟨some 15, .assign (.tmp 54), 22, "values.go:110", #[⟨2, .data⟩, ⟨0, .phase⟩, ⟨1, .phase⟩, ⟨2, .phase⟩, ⟨3, .textOnly .lateStores⟩, ⟨4, .textOnly .lateStoresUnsure⟩, ⟨5, .textOnly .lateStoresUnsure⟩, ⟨6, .textOnly .lateStores⟩], none⟩ : Go.Oper) := rfl
theorem o35_13_8 : o35_13[8]? = some (⟨some 16, .assign (.tmp 57), 22, "values.go:110", #[⟨5, .data⟩, ⟨7, .chain⟩, ⟨0, .phase⟩, ⟨1, .phase⟩, ⟨2, .phase⟩, ⟨3, .phase⟩, ⟨4, .phase⟩, ⟨5, .phase⟩, ⟨6, .textOnly .lateStores⟩, ⟨7, .phase⟩], none⟩ : Go.Oper) := rfl
theorem o35_13_9 : o35_13[9]? = some (⟨some 17, .assign (.tmp 58), 3, "values.go:110", #[⟨6, .data⟩, ⟨8, .chain⟩, ⟨0, .phase⟩, ⟨1, .phase⟩, ⟨2, .phase⟩, ⟨3, .phase⟩, ⟨4, .phase⟩, ⟨5, .phase⟩, ⟨6, .phase⟩, ⟨7, .phase⟩, ⟨8, .phase⟩], none⟩ : Go.Oper) := rfl
set_option maxRecDepth 100000 in
set_option maxHeartbeats 16000000 in
theorem pricesOf_calls (lo lo' : Nat) (v u : Value) (xs : List AsD) (ps : List PlD) (t b : Int) (w : World) (hv : Ass w lo v xs) (hP : Pls w lo' u ps) (hr : RiseA xs) (hn : xs.length ≤ 12) (hs : ∀ x ∈ xs, SmallA x) (hf : ∀ x ∈ xs, FitA x) (hp : ∀ y ∈ ps, SmallP y) (hp2 : ∀ y ∈ ps, 0 ≤ y.many ∧ y.many ≤ 12) (hm : ps.length ≤ 10) (ht1 : 1 ≤ t) (ht2 : t ≤ 20) (hb0 : 0 ≤ b) (hb1 : b ≤ 1000000)
  (f : PlD → Int) (hff : ∀ y ∈ ps, -1000000 ≤ f y ∧ f y ≤ 1000000) (hnv : ∀ y ∈ ps, levelR xs y t = f y) (RES : List OvD) (hO : (overR f ps xs).length ≤ 12) (hRES : rkBy (rkC (insL cmpO (overR f ps xs))) (insL cmpO (overR f ps xs)) (insL cmpO (overR f ps xs)).length = RES)
  (hRl : RES.length ≤ 12) (hRw : ∀ x ∈ RES, x.worth ≤ 10000000) (hD : DigB w) :
  Calls Tryz.prog 35 #[v, u, .int .i64 t, .int .i64 b] w (PaErr (pricesV RES t b) w) := by
 obtain ⟨i0, hi, hz0, hz1, hz2⟩ := info_parts info_Pa
 have DW := Lib.hid (worthsFor_calls lo lo' v u xs ps t w hv hP hr hn hs hf hp hp2 hm ht1 ht2 f hff hnv RES hO hRES)
 have HD := Lib.hid hD
 have HPV := Lib.hid (show pricesV RES t b = if (paidO RES).length = 0 then ([], 0) else if t * b - ((paidO RES).length : Int) < 0 then ([], 12) else (pairO (paidO RES) (divR (t * b - ((paidO RES).length : Int)) (paidO RES)) (paidO RES).length, 0) from rfl)
 generalize pricesV RES t b = PV at HPV ⊢
 have hmul0 : 0 ≤ t * b := Int.mul_nonneg (by omega) hb0
 have hmul1 : t * b ≤ 20000000 := by have h1 := Int.mul_le_mul ht2 hb1 hb0 (by omega); omega
 have HPW := Lib.hid (fun x (h : x ∈ paidO RES) => show 0 < x.worth ∧ x.worth ≤ 10000000 from ⟨(paidO_pos h).2, hRw x (paidO_pos h).1⟩)
 have hpl : (paidO RES).length ≤ 12 := Nat.le_trans (List.length_filter_le _ _) hRl
 obtain ⟨va, vc, rfl⟩ := as_shape hv
 obtain ⟨pa, pc, rfl⟩ := pl_shape hP
 generalize xs.length = nx at *
 generalize ps.length = np at *
 clear hv hP hr hs hf hp hp2 hff hnv hO hRES hRw hD hn hm
 go_enter Tryz.func35, Tryz.ntmps35
 go_wp2_with fail
 refine DW.out.mono ?_
 rintro e w2 ⟨v2, hfr, rfl, hb02⟩
 clear DW
 rcases hfr with ⟨rfl, rfl⟩ | ⟨g, off, cc, rfl, hr, hcc, hl⟩
 ·have HR := Lib.hid (show PV = ([], 0) by rw [HPV.out]; simp [paidO])
  go_wp2_with fail
  refine (deleteOv0_calls 97 #[] (fun x => decide (x.worth ≤ 0)) w2 (enters_of Tryz.func97 (by kernel_rfl) rfl) fun W x _ => pricesOf1_calls x W).mono ?_
  rintro e w3 ⟨rfl, hb3⟩; have hbe := below_step hb02 hb3; go_wp2_with fail
  go_ret2
  exact ⟨_, by rw [HR.out]; exact nil_ownPa _ _, by rw [HR.out]; rfl, below_step hbe (below_alloc _ _)⟩
 ·have DD := Lib.hid (deleteOv_calls 97 #[] (fun x => decide (x.worth ≤ 0)) 0 g off cc RES w2 hr (by omega) hcc (Nat.zero_le _) (enters_of Tryz.func97 (by kernel_rfl) rfl) fun W x _ => pricesOf1_calls x W)
  unfold LeftOv at DD
  have HPO := Lib.hid (show (RES.filter fun x => !decide (x.worth ≤ 0)) = paidO RES from rfl)
  rw [HPO.out] at DD
  generalize paidO RES = l at DD HPV HPW hpl
  clear HPO hr hcc; go_wp2_with fail
  refine DD.out.mono ?_; rintro e w3 ⟨c, rfl, hr3, hc3, hg3⟩; have hb03 := below_gbG hb02 hg3 hl; obtain ⟨n, hn⟩ : ∃ n, l.length = n := ⟨_, rfl⟩
  have Hn := Lib.hid hn; have hV3 : Ovs w3 w.heap.size (.slice (some ⟨g, off, none⟩) l.length c) l := FreshOv.ovs (.inr ⟨g, off, c, rfl, hr3, hc3, hl⟩) (by omega)
  have HOv := Lib.hid hV3; have hglt := hr3.lt; rw [hn] at HPV hpl hc3 ⊢
  clear DD hg3 hb02 hn; by_cases hn0' : n = 0
  ·subst hn0'
   have HR := Lib.hid (show PV = ([], 0) by rw [HPV.out, if_pos rfl])
   go_wp2_with fail
   go_ret2
   exact ⟨_, by rw [HR.out]; exact nil_ownPa _ _, by rw [HR.out]; rfl, below_step hb03 (below_alloc _ _)⟩
  ·have e0 : ((n : Int) == 0) = false := by rw [beq_eq_false_iff_ne]; omega
   obtain ⟨tb, htb⟩ : ∃ tb, t * b = tb := ⟨_, rfl⟩
   rw [htb] at hmul0 hmul1 HPV
   have hwm : IntKind.i64.wrap tb = tb := IntWalk.i64_in _ (by omega)
   obtain ⟨N, hN⟩ : ∃ N, tb - (n : Int) = N := ⟨_, rfl⟩
   have hN' : N ≤ 20000000 := by omega
   have hN'' : -12 ≤ N := by omega
   rw [hN] at HPV
   have hws : IntKind.i64.wrap N = N := IntWalk.i64_in _ (by omega)
   by_cases hneg : N < 0
   ·have e1 : decide (N < 0) = true := decide_eq_true hneg
    have HR := Lib.hid (show PV = ([], 12) by rw [HPV.out, if_neg hn0', if_pos hneg])
    clear HOv hV3 hr3; go_wp2_with fail
    go_ret2
    exact ⟨_, by rw [HR.out]; exact nil_ownPa _ _, by rw [HR.out]; rfl, below_step (below_step hb03 (below_alloc _ _)) (below_alloc _ _)⟩
   ·have e1 : decide (N < 0) = false := decide_eq_false hneg
    have HPV3 := Lib.hid (show PV = (pairO l (divR N l) n, 0) by rw [HPV.out, if_neg hn0', if_neg hneg])
    have hN0 : 0 ≤ N := by omega
    have hN1 : N ≤ 100000000 := by omega
    have HW := HPW; have HSB := Lib.hid (sumO_bound l HW.out); obtain ⟨m, hm1⟩ : ∃ m, n = m + 1 := ⟨n - 1, by omega⟩
    have HL := Lib.hid (show l.length = m + 1 by rw [Hn.out]; exact hm1)
    have hn12 : n ≤ 12 := hpl
    have hn0 : 0 < n := by omega
    rcases ov_at hV3 with ⟨_, h⟩ | ⟨g3, off3, c3', e3, _, _, _, hcell3⟩
    ·have h1 := Hn.out; rw [h] at h1; simp at h1; omega
    have e3' : g = g3 ∧ off = off3 := by simp only [Value.slice.injEq, Option.some.injEq, Addr.mk.injEq] at e3; exact ⟨e3.1.1, e3.1.2.1⟩
    obtain ⟨rfl, rfl⟩ := e3'; have Hcell := Lib.hid hcell3; clear hcell3 e3 hV3 hr3 hm1 HPV HPW; obtain ⟨W3, hW3⟩ : ∃ W3, W3 = ((w3.alloc (.cells #[.slice (some ⟨g, off, none⟩) n c] 62)).alloc (.cells #[.int .i64 N] 3)).alloc (.cells #[.int .i64 0] 3) := ⟨_, rfl⟩
    have hb3 : Below w3.heap.size w3 W3 := by rw [hW3]; exact below_step (below_step (below_alloc w3 _) (below_alloc _ _)) (below_alloc _ _)
    have hs3 : W3.heap.size = w3.heap.size + 3 := by rw [hW3]; simp
    have hX3 : W3.heap[w3.heap.size]? = some (.cells #[.slice (some ⟨g, off, none⟩) n c] 62 (0, 0)) := by rw [hW3]; exact heap_alG (heap_alG (heap_alloc_new w3 _) _) _
    have hX2 : W3.heap[w3.heap.size + 1]? = some (.cells #[.int .i64 N] 3 (0, 0)) := by
     rw [hW3]; have h := heap_alloc_new (w3.alloc (.cells #[.slice (some ⟨g, off, none⟩) n c] 62)) (.cells #[.int .i64 N] 3); rw [World.size_alloc] at h
     exact heap_alG h _
    have hX5 : W3.heap[w3.heap.size + 2]? = some (.cells #[.int .i64 0] 3 (0, 0)) := by
     rw [hW3]; have h := heap_alloc_new ((w3.alloc (.cells #[.slice (some ⟨g, off, none⟩) n c] 62)).alloc (.cells #[.int .i64 N] 3)) (.cells #[.int .i64 0] 3); simpa using h
    have HX2 := Lib.hid hX2; have HX3 := Lib.hid hX3; have HX5 := Lib.hid hX5; have Hb3 := Lib.hid hb3; have Hs3 := Lib.hid hs3; clear hX2 hX3 hX5 hb3 hs3; go_upto_region 8 with fail
    rw [← hW3]; clear hW3; have y3 := cell_at HX3.out 0 rfl; go_wp2_with fail
    go_loopw [43] (fun i wr => ∃ k : Nat, k ≤ n ∧ i = .int .i64 k ∧ Hid (wr.heap[w3.heap.size + 2]? = some (.cells #[.int .i64 (sumO (l.take k))] 3 (0, 0))) ∧ W3.grownBy wr (some (w3.heap.size + 2))) (fun i _ => n - (intOf i).toNat)
    case atStart => exact ⟨0, Nat.zero_le _, rfl, Lib.hid (by simpa [sumO] using HX5.out), gb_refl _ _⟩
    case round =>
     clear y3; obtain ⟨k, hk, rfl, H5, hg⟩ := hrel; by_cases hlt : k < n
     ·obtain ⟨x, hx⟩ : ∃ x, l[k]? = some x := ⟨_, List.getElem?_eq_getElem (by rw [Hn.out]; exact hlt)⟩
      obtain ⟨hw0, hw1⟩ := HW.out x (List.mem_of_getElem? hx); obtain ⟨q0, q1, q2⟩ := Hcell.out k x hx; have hbr := below_gbG Hb3.out hg (by omega)
      have p0 := below_cell hbr q0; have p1 := below_cell hbr q1; have p2 := below_cell hbr q2; have HS := Lib.hid (sumO_snoc hx); obtain ⟨hs0, hs1⟩ := HSB.out k; generalize sumO (l.take k) = s0 at H5 HS hs0 hs1
      have hX5l := lt_of_heap H5.out; obtain ⟨wA, hwA⟩ : ∃ wA, wA = wr.alloc (.cells #[.string x.player, .int .i64 x.worth, .int .i64 x.rank] 74) := ⟨_, rfl⟩
      obtain ⟨X7, hX7⟩ : ∃ X7, X7 = wr.heap.size := ⟨_, rfl⟩
      have hbA : Below wr.heap.size wr wA := by rw [hwA]; exact below_alloc wr _
      have hx7 : wA.heap[X7]? = some (.cells #[.string x.player, .int .i64 x.worth, .int .i64 x.rank] 74 (0, 0)) := by rw [hwA, hX7]; exact heap_alloc_new wr _
      have h5A := cells_later H5.out hbA; have x1 := cell_at hx7 1 rfl; have y5 := cell_at h5A 0 rfl; have hfz := fun o => frozen_ofG h5A o
      have hgA := gb_trans hg (gb_below hbA (some (w3.heap.size + 2))); have hgE := gb_trans hgA (gb_setCell wA (w3.heap.size + 2) 0 (.int .i64 (s0 + x.worth))); have HE := Lib.hid (show (wA.setCell ⟨w3.heap.size + 2, 0, none⟩ (.int .i64 (s0 + x.worth))).heap[w3.heap.size + 2]? = some (.cells #[.int .i64 (sumO (l.take (k + 1)))] 3 (0, 0)) by rw [HS.out]; simp [World.setCell, Array.getElem?_modify, h5A])
      clear hx q0 q1 q2 H5 hx7 h5A hgA hbr; go_upto_region 11 with fail
      rw [← hwA, ← hX7]; clear hwA hX7 hbA p0 p1 p2; go_wp2_with fail
      go_roundw
      case rel => exact ⟨k + 1, by omega, by go_num, HE, hgE⟩
      case measure => simp [intOf]; omega
     ·obtain rfl : k = n := by omega
      obtain ⟨wB, rfl⟩ : ∃ wB, wB = wr := ⟨_, rfl⟩
      have hS0 : Hid (l.take k = l) := Lib.hid (by rw [← Hn.out, List.take_length])
      rw [hS0.out] at H5
      have hSp : 0 < sumO l := sumO_pos (fun x hx => (HW.out x hx).1) (by rw [Hn.out]; omega)
      have hSb : sumO l ≤ 120000000 := by
       have h := (HSB.out k).2; rw [hS0.out] at h
       omega
      have HLB := Lib.hid (left_bound (N := N) hN0 (fun x hx => (HW.out x hx).1) hSp)
      have HAB := Lib.hid (fun j (h : j ≤ k) => shrs_abs hN0 hN1 HW.out hSp j (by rw [Hn.out]; exact h))
      have HDR := Lib.hid (show divR N l = bump (shrs N (sumO l) l l.length) (((insL (fun i j : Fin (m + 1) => cmpRem N (sumO l) l i.val j.val) (List.finRange (m + 1))).map Fin.val).take (N - (shrs N (sumO l) l l.length).sum).toNat) by unfold divR; rw [HL.out])
      generalize sumO l = S at H5 hSp hSb HLB HAB HDR
      have hX2r := heap_gbG HX2.out hg (by omega)
      have hX3r := heap_gbG HX3.out hg (by omega)
      have hbr := below_gbG Hb3.out hg (by omega)
      have hsz : w3.heap.size + 3 ≤ wB.heap.size := by have := hg.size; have := Hs3.out; omega
      have HX2r := Lib.hid hX2r; have HX3r := Lib.hid hX3r; have HS : Hid (∀ w', Below wB.heap.size wB w' → (True ∧ w'.cell? ⟨w3.heap.size, 0, none⟩ = some (.slice (some ⟨g, off, none⟩) k c) ∧ w'.cell? ⟨w3.heap.size + 1, 0, none⟩ = some (.int .i64 N))) := Lib.hid (fun w' hb => ⟨trivial, below_cell hb (cell_at hX3r 0 rfl), below_cell hb (cell_at hX2r 0 rfl)⟩)
      have hb05 := (Below.refl wB.heap.size wB).drew; clear hg HSB hX2r hX3r; go_upto_region 13 with fail
      show Code.wp _ (Code.region 13 o35_13 true) _ _ _
      refine regionC_start 10 (fun w' => True ∧ w'.cell? ⟨w3.heap.size, 0, none⟩ = some (.slice (some ⟨g, off, none⟩) k c) ∧ w'.cell? ⟨w3.heap.size + 1, 0, none⟩ = some (.int .i64 N)) (fun j => [0, 1, 2, 3, 4, 5, 6, 7, 8, 9].contains j) (by kernel_rfl) rfl ?_
      generalize wB.drew = wc at hb05 ⊢
      have hC := hb05; have hS := HS.out _ hC; refine loadC 0 52 (v := ?_) o35_13_0 rfl (by kernel_rfl) (by kernel_rfl) (by kernel_rfl) (by kernel_rfl) (fun _ _ _ h => h) (by rfl) ?y0_1 (by exact hS) ?_
      case y0_1 => intro w h; (try dsimp only at h); go_simp; try with_reducible rfl
      simp only [sE0, sE1]; refine loadC 1 53 (v := ?_) o35_13_1 rfl (by kernel_rfl) (by kernel_rfl) (by kernel_rfl) (by kernel_rfl) (fun _ _ _ h => h) (by rfl) ?y1_2 (by exact hS) ?_
      case y1_2 => intro w h; (try dsimp only at h); go_simp; try with_reducible rfl
      simp only [sE0, sE1]; refine loadC 3 55 (v := ?_) o35_13_3 rfl (by kernel_rfl) (by kernel_rfl) (by kernel_rfl) (by kernel_rfl) (fun _ _ _ h => h) (by rfl) ?y3_3 (by exact hS) ?_
      case y3_3 => intro w h; (try dsimp only at h); go_simp; try with_reducible rfl
      simp only [sE0, sE1]; refine loadC 4 56 (v := ?_) o35_13_4 rfl (by kernel_rfl) (by kernel_rfl) (by kernel_rfl) (by kernel_rfl) (fun _ _ _ h => h) (by rfl) ?y4_4 (by exact hS) ?_
      case y4_4 => intro w h; (try dsimp only at h); go_simp; try with_reducible rfl
      simp only [sE0, sE1]; refine loadC 6 58 (v := ?_) o35_13_6 rfl (by kernel_rfl) (by kernel_rfl) (by kernel_rfl) (by kernel_rfl) (fun _ _ _ h => h) (by rfl) ?y6_5 (by exact hS) ?_
      case y6_5 => intro w h; (try dsimp only at h); go_simp; try with_reducible rfl
      simp only [sE0, sE1]; refine readyC (rs := [2, 5]) (by kernel_rfl) (by simp) (each_cons (runC o35_13_2 (by rfl) (fun K hK => ?_)) (each_cons (runC o35_13_5 (by rfl) (fun K hK => ?_)) each_nil))
      ·have hmk := make_intsG k (by omega) wc
       go_simp; obtain ⟨wn, hwn⟩ : ∃ wn, wc.alloc (.cells (madeCells #[.int .i64 0] k) 3) = wn := ⟨_, rfl⟩
       have h8 : IntsAt wn wc.heap.size (List.replicate k 0) := by unfold IntsAt; rw [← made_ints, ← hwn]; exact heap_alloc_new wc _
       have hbn : Below wc.heap.size wc wn := by rw [← hwn]; exact below_alloc wc _
       rw [hwn]; clear hwn hmk; have hG8w : wB.heap.size ≤ wc.heap.size := hC.size
       try have hG98 : G9 ≠ wc.heap.size := by have := lt_of_heap h9; omega
       try replace h9 := cells_later h9 hbn
       replace hC := below_step hC hbn; have hS := HS.out _ hC; obtain ⟨G8, hG8⟩ : ∃ G, wc.heap.size = G := ⟨_, rfl⟩
       rw [hG8] at h8 hG8w ⊢
       try rw [hG8] at hG98
       clear hbn hG8; obtain ⟨wc, rfl⟩ : ∃ wc, wc = wn := ⟨_, rfl⟩
       refine hK.out _ _ (fun _ => ?_) ?_
       ·(exact hS)
       clear hK K; try simp only [Act.put, sEt, sE0, sE1]
       refine loadC 7 15 (v := ?_) o35_13_7 rfl (by kernel_rfl) (by kernel_rfl) (by kernel_rfl) (by kernel_rfl) (fun _ _ _ h => h) (by rfl) ?y7_6 (by exact hS) ?_
       case y7_6 => intro w h; (try dsimp only at h); go_simp; try with_reducible rfl
       simp only [sE0, sE1]; refine readyC (rs := [5]) (by kernel_rfl) (by simp) (each_cons (runC o35_13_5 (by rfl) (fun K hK => ?_)) each_nil)
       have hmk := make_intsG k (by omega) wc
       go_simp; obtain ⟨wn, hwn⟩ : ∃ wn, wc.alloc (.cells (madeCells #[.int .i64 0] k) 3) = wn := ⟨_, rfl⟩
       have h9 : IntsAt wn wc.heap.size (List.replicate k 0) := by unfold IntsAt; rw [← made_ints, ← hwn]; exact heap_alloc_new wc _
       have hbn : Below wc.heap.size wc wn := by rw [← hwn]; exact below_alloc wc _
       rw [hwn]; clear hwn hmk; have hG9w : wB.heap.size ≤ wc.heap.size := hC.size
       try have hG89 : G8 ≠ wc.heap.size := by have := lt_of_heap h8; omega
       try replace h8 := cells_later h8 hbn
       replace hC := below_step hC hbn; have hS := HS.out _ hC; obtain ⟨G9, hG9⟩ : ∃ G, wc.heap.size = G := ⟨_, rfl⟩
       rw [hG9] at h9 hG9w ⊢
       try rw [hG9] at hG89
       clear hbn hG9; obtain ⟨wc, rfl⟩ : ∃ wc, wc = wn := ⟨_, rfl⟩
       refine hK.out _ _ (fun _ => ?_) ?_
       ·(exact hS)
       clear hK K; try simp only [Act.put, sEt, sE0, sE1]
       refine loadC 8 16 (v := ?_) o35_13_8 rfl (by kernel_rfl) (by kernel_rfl) (by kernel_rfl) (by kernel_rfl) (fun _ _ _ h => h) (by rfl) ?y8_7 (by exact hS) ?_
       case y8_7 => intro w h; (try dsimp only at h); go_simp; try with_reducible rfl
       simp only [sE0, sE1]; refine loadC 9 17 (v := ?_) o35_13_9 rfl (by kernel_rfl) (by kernel_rfl) (by kernel_rfl) (by kernel_rfl) (fun _ _ _ h => h) (by rfl) ?y9_8 (by exact hS) ?_
       case y9_8 => intro w h; (try dsimp only at h); go_simp; try with_reducible rfl
       simp only [sE0, sE1]; refine doneC (by kernel_rfl) ?_ _
       first | have hG89 := hG89 | have hG89 := Ne.symm hG98
       have H8 : Hid (IntsAt wc G8 (fillI (shr N S l) k 0)) := Lib.hid (by rw [fillI_zero]; exact h8)
       have H9 : Hid (IntsAt wc G9 (fillI (fun i => (i : Int)) k 0)) := Lib.hid (by rw [fillI_zero]; exact h9)
       have Hb5 := Lib.hid hC; have y35 := hS.2.1; clear h8 h9 hC HS hS hb05; go_wp2_with fail
       go_loopw [17, 61] (fun lf i wx => ∃ j : Nat, j ≤ k ∧ i = .int .i64 j ∧ lf = .int .i64 (N - (shrs N S l j).sum) ∧ Hid (IntsAt wx G8 (fillI (shr N S l) k j)) ∧ Hid (IntsAt wx G9 (fillI (fun i => (i : Int)) k j)) ∧ Below wB.heap.size wB wx) (fun _ i _ => k - (intOf i).toNat)
       case atStart => exact ⟨0, Nat.zero_le _, rfl, by simp [shrs], H8, H9, Hb5.out⟩
       case round =>
        clear H8 H9 Hb5 y35; obtain ⟨j, hj, rfl, rfl, H8, H9, hb⟩ := hrel; by_cases hjt : j < k
        ·obtain ⟨x, hx⟩ : ∃ x, l[j]? = some x := ⟨_, List.getElem?_eq_getElem (by rw [Hn.out]; exact hjt)⟩
         obtain ⟨hw0, hw1⟩ := HW.out x (List.mem_of_getElem? hx); obtain ⟨q0, q1, q2⟩ := Hcell.out j x hx; have hbx := below_step hbr hb; have p0 := below_cell hbx q0; have p1 := below_cell hbx q1; have p2 := below_cell hbx q2; obtain ⟨hq, hsh0, hsh1⟩ := shr_bound (S := S) hx hN0 hN1 hw0 hw1 hSp; obtain ⟨ha0, ha1⟩ := HAB.out j (by omega)
         obtain ⟨hm0, hm1⟩ := mulB hN0 hN1 hw0 hw1; have hf8 := fillI_succ (f := shr N S l) hjt; have hf9 := fillI_succ (f := fun i => (i : Int)) hjt
         have Hss := Lib.hid (show (shrs N S l (j + 1)).sum = (shrs N S l j).sum + shr N S l j by rw [shrs_succ, List.sum_append]; simp)
         have e8 := fillI_at (f := shr N S l) (k := j) hjt; have e9 := fillI_at (f := fun i => (i : Int)) (k := j) hjt
         obtain ⟨sh, hsh⟩ : ∃ sh, shr N S l j = sh := ⟨_, rfl⟩
         rw [hsh] at hq hsh0 hsh1 hf8 Hss
         generalize (shrs N S l j).sum = s0 at Hss ha0 ha1
         obtain ⟨wA, hwA⟩ : ∃ wA, wA = wr.alloc (.cells #[.string x.player, .int .i64 x.worth, .int .i64 x.rank] 74) := ⟨_, rfl⟩
         obtain ⟨X12, hX12⟩ : ∃ X12, X12 = wr.heap.size := ⟨_, rfl⟩
         have hbA : Below wr.heap.size wr wA := by rw [hwA]; exact below_alloc wr _
         have hx12 : wA.heap[X12]? = some (.cells #[.string x.player, .int .i64 x.worth, .int .i64 x.rank] 74 (0, 0)) := by rw [hwA, hX12]; exact heap_alloc_new wr _
         have hbw := below_step hb hbA; have h8A : IntsAt wA G8 (fillI (shr N S l) k j) := cells_later H8.out hbA
         have h9A : IntsAt wA G9 (fillI (fun i => (i : Int)) k j) := cells_later H9.out hbA
         have c8 := h8A.cell e8; have c9 := h9A.cell e9; rw [if_neg (Nat.lt_irrefl j)] at c8 c9
         have z2 := below_cell hbw (cell_at HX2r.out 0 rfl); have z5 := below_cell hbw (cell_at H5.out 0 rfl); have x1 := cell_at hx12 1 rfl; have hfz8 := fun o => frozen_ofG h8A o
         have h8B := h8A.put (i := j) sh; rw [hf8] at h8B
         have hg8 := gb_setCell wA G8 j (.int .i64 sh); obtain ⟨W', hW'⟩ : ∃ W', wA.setCell ⟨G8, j, none⟩ (.int .i64 sh) = W' := ⟨_, rfl⟩
         rw [hW'] at h8B hg8
         have h9B : IntsAt W' G9 (fillI (fun i => (i : Int)) k j) := heap_gbG h9A hg8 (Ne.symm hG89)
         have c9B := gb_cell hg8 c9 (Ne.symm hG89); have c8B := h8B.cell (fillI_at (k := j + 1) hjt); rw [if_pos (Nat.lt_succ_self j), hsh] at c8B
         have hfz9 := fun o => frozen_ofG h9B o
         have h9C := h9B.put (i := j) ((j : Nat) : Int); rw [hf9] at h9C
         have hg9 := gb_setCell W' G9 j (.int .i64 ((j : Nat) : Int)); obtain ⟨W'', hW''⟩ : ∃ W'', W'.setCell ⟨G9, j, none⟩ (.int .i64 ((j : Nat) : Int)) = W'' := ⟨_, rfl⟩
         rw [hW''] at h9C hg9
         have H8C : Hid (IntsAt W'' G8 (fillI (shr N S l) k (j + 1))) := Lib.hid (heap_gbG h8B hg9 hG89)
         have c8C := gb_cell hg9 c8B hG89; have H9C := Lib.hid h9C; have hbE := below_gbG (below_gbG hbw hg8 hG8w) hg9 hG9w; have hwm : IntKind.i64.wrap (N * x.worth) = N * x.worth := IntWalk.i64_in _ (by omega)
         have hwq : IntKind.i64.wrap sh = sh := IntWalk.i64_in _ (by omega)
         have hS1 : S ≠ 0 := by omega
         clear hx q0 q1 q2 hbx H8 H9 hb h8A h9A h8B h9B h9C hg8 hg9 hx12 hf8 hf9 e8 e9 hsh hbw; go_upto_region 17 with fail
         rw [← hwA, ← hX12]; clear hwA hX12 hbA p0 p1 p2; go_wp2_with fail
         go_roundw
         case rel => exact ⟨j + 1, by omega, by go_num, by rw [Hss.out]; congr 1; omega, H8C, H9C, hbE⟩
         case measure => simp [intOf]; omega
        ·obtain rfl : j = k := by omega
         have hjm : j = m + 1 := by rw [← Hn.out, HL.out]
         have HLB2 := HLB.out; have HDR2 := HDR.out; rw [Hn.out] at HLB2 HDR2
         obtain ⟨LF, hLF⟩ : ∃ LF : Nat, N - (shrs N S l j).sum = (LF : Int) := ⟨_, (Int.toNat_of_nonneg HLB2.1).symm⟩
         rw [hLF] at HLB2 HDR2 ⊢
         rw [Int.toNat_natCast] at HDR2
         have hLFj : LF ≤ j := by omega
         have h8 : IntsAt wr G8 (shrs N S l j) := by
          have h := H8.out; rw [fillI_full] at h
          exact h
         have h9 : FinsAt wr G9 (List.finRange (m + 1)) := by
          have h := H9.out; unfold IntsAt at h
          rw [fillI_full, hjm, fin_list] at h
          exact h
         have hSHb : ∀ z ∈ shrs N S l j, 0 ≤ z ∧ z ≤ 1000000000000000 := fun z hz => by
          obtain ⟨i, hi, rfl⟩ := List.mem_map.1 hz; have hi2 : i < l.length := by rw [Hn.out]; exact List.mem_range.1 hi
          have hx := List.getElem?_eq_getElem hi2; obtain ⟨a, b⟩ := HW.out _ (List.getElem_mem hi2); exact (shr_bound (S := S) hx hN0 hN1 a b hSp).2
         obtain ⟨SH, hSH⟩ : ∃ SH, shrs N S l j = SH := ⟨_, rfl⟩
         have hSHl : SH.length = j := by rw [← hSH]; unfold shrs; simp
         rw [hSH] at h8 hSHb HDR2
         have hbB6 := hb; have h96 := h9; have hb06 := below_step hbr hbB6; have h86 := h8
         have hDA : DivAt wr (w3.heap.size + 1) w3.heap.size (w3.heap.size + 1 + 1) N g off c l S := by
          refine ⟨below_cell hbB6 (cell_at HX2r.out 0 rfl), ?_, below_cell hbB6 (cell_at H5.out 0 rfl), fun i x hx => below_cell hb06 (Hcell.out i x hx).2.1⟩
          rw [Hn.out]; exact below_cell hbB6 (cell_at HX3r.out 0 rfl)
         have h8lt := lt_of_heap h8; have h9lt := h9.lt
         have DS := Lib.hid (sortStableIn_calls (fun i k : Fin (m + 1) => cmpRem N S l i.val k.val) 99 #[.pointer (some ⟨w3.heap.size + 1, 0, none⟩), .pointer (some ⟨w3.heap.size, 0, none⟩), .pointer (some ⟨w3.heap.size + 1 + 1, 0, none⟩)] G9 j (List.finRange (m + 1)) wr h96 (by simp; omega) (enters_of Tryz.func99 (by kernel_rfl) rfl) fun W a b hgW => by
          have ha : a.val < l.length := by rw [HL.out]; exact a.isLt
          have hb' : b.val < l.length := by rw [HL.out]; exact b.isLt
          have hxa := List.getElem?_eq_getElem ha; have hxb := List.getElem?_eq_getElem hb'; obtain ⟨a0, a1⟩ := HW.out _ (List.getElem_mem ha); obtain ⟨b0, b1⟩ := HW.out _ (List.getElem_mem hb'); exact pricesOf2_calls _ _ _ g off c N S l a.val b.val _ _ W (hDA.kept hgW (by omega) (by omega) (by omega) (by omega)) hxa hxb (by rw [Hn.out]; omega) hN0 hN1 a0 a1 b0 b1 hSp (by omega))
         have hlen : (List.finRange (m + 1)).length = j := by rw [List.length_finRange, hjm]
         rw [hlen] at DS
         unfold SortedIn at DS
         have hOLl := insL_len (fun i k : Fin (m + 1) => cmpRem N S l i.val k.val) (List.finRange (m + 1))
         rw [hlen] at hOLl
         generalize insL (fun i k : Fin (m + 1) => cmpRem N S l i.val k.val) (List.finRange (m + 1)) = OL at DS HDR2 hOLl
         have HDR3 := Lib.hid HDR2; have HSl := Lib.hid hSHl; have HSB := Lib.hid hSHb; have HOL := Lib.hid hOLl; have H86 := Lib.hid h86; have Hb06 := Lib.hid hbB6; have HJm := Lib.hid hjm; clear H8 H9 h8 h9 hb hLF HDR HLB HAB hSH hbB6 h96 hDA hlen HDR2 hSHl hSHb hOLl h86 hb06 HLB2 hjm; go_wp2_with fail
         refine DS.out.mono ?_; rintro e w7 ⟨rfl, h97, hg7⟩; have H87 : Hid (IntsAt w7 G8 SH) := Lib.hid (heap_gbG H86.out hg7 hG89)
         have H97 := Lib.hid h97; have hb07 := below_gbG Hb06.out hg7 (by omega)
         clear DS H86 Hb06 hg7 h97; go_wp2_with fail
         go_loopw [93] (fun i wx => ∃ q : Nat, q ≤ LF ∧ i = .int .i64 q ∧ Hid (IntsAt wx G8 (bump SH ((OL.map Fin.val).take q))) ∧ Hid (FinsAt wx G9 OL) ∧ Below wB.heap.size wB wx) (fun i _ => LF - (intOf i).toNat)
         case atStart => exact ⟨0, Nat.zero_le _, rfl, H87, H97, hb07⟩
         case round =>
          clear H87 H97 hb07; obtain ⟨q, hq, rfl, H8, H9, hb⟩ := hrel; by_cases hqt : q < LF
          ·obtain ⟨o, ho⟩ : ∃ o, OL[q]? = some o := ⟨_, List.getElem?_eq_getElem (by rw [HOL.out]; omega)⟩
           have hov : (OL.map Fin.val)[q]? = some o.val := by simp [ho]
           have hoj : o.val < j := by rw [HJm.out]; exact o.isLt
           have Hbs := Lib.hid (show bump SH ((OL.map Fin.val).take (q + 1)) = (bump SH ((OL.map Fin.val).take q)).set o.val ((bump SH ((OL.map Fin.val).take q))[o.val]?.getD 0 + 1) by rw [take_snocG hov, bump_snoc])
           have c9 : wr.cell? ⟨G9, q, none⟩ = some (.int .i64 ((o.val : Nat) : Int)) := by
            rw [cell_of_row wr G9 q _ 3 (0, 0) H9.out]; simp [ho, finV]
           have hbl : (bump SH ((OL.map Fin.val).take q)).length = j := by rw [bump_len, HSl.out]
           have hbb := bump_bound (B := 1000000000000012) ((OL.map Fin.val).take q) SH 1000000000000000 HSB.out (by omega) (by rw [List.length_take]; omega)
           generalize bump SH ((OL.map Fin.val).take q) = BS at H8 Hbs hbl hbb
           obtain ⟨z, hz⟩ : ∃ z, BS[o.val]? = some z := ⟨_, List.getElem?_eq_getElem (by rw [hbl]; exact hoj)⟩
           obtain ⟨hz0, hz1⟩ := hbb z (List.mem_of_getElem? hz); rw [hz] at Hbs
           have c8 := H8.out.cell hz; have hfz := fun o => frozen_ofG H8.out o
           have h8B := H8.out.put (i := o.val) (z + 1); have hg8 := gb_setCell wr G8 o.val (.int .i64 (z + 1)); have HE := Lib.hid (show IntsAt (wr.setCell ⟨G8, o.val, none⟩ (.int .i64 (z + 1))) G8 (bump SH ((OL.map Fin.val).take (q + 1))) by rw [Hbs.out]; exact h8B)
           have HE9 : Hid (FinsAt (wr.setCell ⟨G8, o.val, none⟩ (.int .i64 (z + 1))) G9 OL) := Lib.hid (heap_gbG H9.out hg8 (Ne.symm hG89))
           have hbE := below_gbG hb hg8 (by omega)
           generalize o.val = ov at c9 hoj c8 HE HE9 hbE
           clear ho hov hbl hbb hz h8B hg8 H8 H9; go_wp2_with fail
           go_roundw
           case rel => exact ⟨q + 1, by omega, by go_num, HE, HE9, hbE⟩
           case measure => simp [intOf]; omega
          ·obtain rfl : q = LF := by omega
           have HEnd := Lib.hid (show IntsAt wr G8 (divR N l) by rw [HDR3.out]; exact H8.out)
           have hlenD : (divR N l).length = j := by rw [HDR3.out, bump_len, HSl.out]
           have HlD := Lib.hid hlenD; have HDb := Lib.hid (divR_bound hN0 hN1 HW.out (by rw [Hn.out]; exact hn12))
           have HR := Lib.hid (show PV = (pairO l (divR N l) j, 0) from HPV3.out)
           generalize divR N l = DVL at HEnd HlD HDb HR
           have hbB := below_step hb03 (below_step hbr hb); have HlO := Lib.hid (HOv.out.below (below_step hbr hb)); have y10 := below_cell hb (cell_at HX3r.out 0 rfl); clear H8 H9 hlenD hb; obtain ⟨wB, rfl⟩ : ∃ wB, wB = wr := ⟨_, rfl⟩
           go_wp2_with fail
           go_loopw [22, 106] (fun q i wr => ∃ k : Nat, k ≤ j ∧ i = .int .i64 k ∧ Hid (OwnPa wr wB.heap.size q (pairO l DVL k)) ∧ Below wB.heap.size wB wr) (fun _ i _ => j - (intOf i).toNat)
           case atStart => exact ⟨0, Nat.zero_le _, rfl, Lib.hid (by simpa [pairO, OwnPa] using World.ownsRow_nil _ _ _ _), Below.refl _ _⟩
           case round =>
            obtain ⟨k, hk, rfl, Hown, hb⟩ := hrel; by_cases hlt : k < j
            ·obtain ⟨x, hx⟩ : ∃ x, l[k]? = some x := ⟨_, List.getElem?_eq_getElem (by rw [Hn.out]; exact hlt)⟩
             obtain ⟨z, hz⟩ : ∃ z, DVL[k]? = some z := ⟨_, List.getElem?_eq_getElem (by rw [HlD.out]; exact hlt)⟩
             obtain ⟨hzb0, hzb1⟩ := HDb.out k z hz; have hst := pairO_succ hx hz; rw [Int.add_comm 1 z] at hst
             have hni : Int64 (z + 1) := by unfold Int64; omega
             have hwz : IntKind.i64.wrap (z + 1) = z + 1 := IntWalk.i64_in _ (by omega)
             have Hst := Lib.hid hst; rcases ov_at HlO.out with ⟨_, h⟩ | ⟨g2, off2, cap2, e, _, hgl2, _, hcell⟩
             ·rw [h] at hx; simp at hx
             have e' : g2 = g ∧ off2 = off := by simp only [Value.slice.injEq, Option.some.injEq, Addr.mk.injEq] at e; exact ⟨e.1.1.symm, e.1.2.1.symm⟩
             obtain ⟨rfl, rfl⟩ := e'; obtain ⟨q0, q1, q2⟩ := hcell k x hx; have p0 := below_cell hb q0; have p1 := below_cell hb q1; have p2 := below_cell hb q2; have g8B := HEnd.out.cell hz; obtain ⟨wA, hwA⟩ : ∃ wA, wA = wr.alloc (.cells #[.string x.player, .int .i64 x.worth, .int .i64 x.rank] 74) := ⟨_, rfl⟩
             obtain ⟨X24, hX24⟩ : ∃ X24, X24 = wr.heap.size := ⟨_, rfl⟩
             have hbA : Below wr.heap.size wr wA := by rw [hwA]; exact below_alloc wr _
             have hx24 : wA.heap[X24]? = some (.cells #[.string x.player, .int .i64 x.worth, .int .i64 x.rank] 74 (0, 0)) := by rw [hwA, hX24]; exact heap_alloc_new wr _
             have hbW := below_step hb hbA; have hbw := below_step hbB hbW; have HO := Lib.hid (own_belowG Hown.out hbA); have HX24 := Lib.hid hx24; have x0 := cell_at hx24 0 rfl; have g8A := below_cell hbW g8B; have hcl : (pairO l DVL k).length ≤ 12 := by rw [pairO_len]; omega
             generalize pairO l DVL k = C0 at HO Hst hcl
             have HS := Lib.hid (show ∀ w', Below wA.heap.size wA w' → (True ∧ w'.cell? ⟨X24, 0, none⟩ = some (.string x.player) ∧ w'.cell? ⟨G8, k, none⟩ = some (.int .i64 z)) from fun w' hb => ⟨trivial, below_cell hb x0, below_cell hb g8A⟩)
             have hbd := (Below.refl wA.heap.size wA).drew; clear hcell q0 q1 q2 hb hx hz Hown hst e hx24; go_upto_region 30 with fail
             rw [← hwA, ← hX24]; clear hwA hX24 hbA p0 p1 p2 x0 g8A; show Code.wp _ (Code.region 30 o35_30 true) _ _ _
             refine region_start 13 (fun w' => True ∧ w'.cell? ⟨X24, 0, none⟩ = some (.string x.player) ∧ w'.cell? ⟨G8, k, none⟩ = some (.int .i64 z)) (by kernel_rfl) rfl ?_ (fun hHeld => ?_)
             ·(exact HS.out _ (by first | exact hbd | exact hb07 | exact below_step hb07 (below_alloc _ _)))
             refine take_to 0 111 (bQ 13 1) (v := ?_) o35_30_0 rfl o35_30_ns (by kernel_rfl) (by kernel_rfl) (fun _ _ _ h => h) (by rfl) ?y0q (by assumption) ?_
             case y0q => intro w h; (try dsimp only at h); go_simp; try with_reducible rfl
             simp only [sE0, sE1]; refine take_to 1 112 (bQ 13 3) (v := ?_) o35_30_1 rfl o35_30_ns (by kernel_rfl) (by kernel_rfl) (fun _ _ _ h => h) (by rfl) ?y1q (by assumption) ?_
             case y1q => intro w h; (try dsimp only at h); go_simp; try with_reducible rfl
             simp only [sE0, sE1]; refine take_to 2 113 (bQ 13 7) (v := ?_) o35_30_2 rfl o35_30_ns (by kernel_rfl) (by kernel_rfl) (fun _ _ _ h => h) (by rfl) ?y2q (by assumption) ?_
             case y2q => intro w h; (try dsimp only at h); go_simp; try with_reducible rfl
             simp only [sE0, sE1]; refine take_to 3 114 (bQ 13 15) (v := ?_) o35_30_3 rfl o35_30_ns (by kernel_rfl) (by kernel_rfl) (fun _ _ _ h => h) (by rfl) ?y3q (by assumption) ?_
             case y3q => intro w h; (try dsimp only at h); go_simp; try with_reducible rfl
             simp only [sE0, sE1]; refine take_to 4 115 (bQ 13 31) (v := ?_) o35_30_4 rfl o35_30_ns (by kernel_rfl) (by kernel_rfl) (fun _ _ _ h => h) (by rfl) ?y4q (by assumption) ?_
             case y4q => intro w h; (try dsimp only at h); go_simp; try with_reducible rfl
             simp only [sE0, sE1]; refine take_to 5 116 (bQ 13 63) (v := ?_) o35_30_5 rfl o35_30_ns (by kernel_rfl) (by kernel_rfl) (fun _ _ _ h => h) (by rfl) ?y5q (by assumption) ?_
             case y5q => intro w h; (try dsimp only at h); go_simp; try with_reducible rfl
             simp only [sE0, sE1]; refine take_to 6 117 (bQ 13 127) (v := ?_) o35_30_6 rfl o35_30_ns (by kernel_rfl) (by kernel_rfl) (fun _ _ _ h => h) (by rfl) ?y6q (by assumption) ?_
             case y6q => intro w h; (try dsimp only at h); go_simp; try with_reducible rfl
             simp only [sE0, sE1]; refine take_to 7 118 (bQ 13 255) (v := .int .i64 (z + 1)) o35_30_7 rfl o35_30_ns (by kernel_rfl) (by kernel_rfl) (fun _ _ _ h => h) (by rfl) ?y7q (by assumption) ?_
             case y7q =>
              intro w hSw; try dsimp only at hSw
              go_simp; try rw [hwz]
              try with_reducible rfl
             simp only [sE0, sE1]; refine run_to 8 (bQ 13 511) o35_30_8 (by kernel_rfl) (by kernel_rfl) (by rfl) (fun K hK => ?_)
             go_simp; refine (itoa_calls (z + 1) _ hni (HD.out _ (below_step hbw hbd))).mono ?_; rintro e w7 ⟨rfl, hb7⟩; have hb07 := below_step hbd hb7; go_wp2_with fail
             refine hK.out _ _ ?_ (fun hHeld => ?_)
             ·(exact HS.out _ (by first | exact hbd | exact hb07 | exact below_step hb07 (below_alloc _ _)))
             clear hK K; try simp only [Act.put, sEt, sE0, sE1]
             refine run_to 9 (bQ 13 1023) o35_30_9 (by kernel_rfl) (by kernel_rfl) (by rfl) (fun K hK => ?_)
             go_simp; refine hK.out _ _ ?_ (fun hHeld => ?_)
             ·(exact HS.out _ (by first | exact hbd | exact hb07 | exact below_step hb07 (below_alloc _ _)))
             clear hK K; try simp only [Act.put, sEt, sE0, sE1]
             refine run_to 10 (bQ 13 2047) o35_30_10 (by kernel_rfl) (by kernel_rfl) (by rfl) (fun K hK => ?_)
             go_simp; refine hK.out _ _ ?_ (fun hHeld => ?_)
             ·(exact HS.out _ (by first | exact hbd | exact hb07 | exact below_step hb07 (below_alloc _ _)))
             clear hK K; try simp only [Act.put, sEt, sE0, sE1]
             refine run_to 11 (bQ 13 4095) o35_30_11 (by kernel_rfl) (by kernel_rfl) (by rfl) (fun K hK => ?_)
             have hownB := World.ownsRow.alloc (own_belowG HO.out hb07) (.cells #[.string x.player, .string (itoaS (z + 1))] 70); refine wp_append_at _ (.tmp 111) (.tmp 121) 59 rfl wB.heap.size 70 i0 (.agg #[.string ⟨#[]⟩, .string ⟨#[]⟩]) 2 32 Tryz.underlying59 hi hz0 hz1 hz2 rfl (by decide) _ C0.length _ rfl hownB _ 1 1 [.string x.player, .string (itoaS (z + 1))] rfl rfl (cells_newG w7 [.string x.player, .string (itoaS (z + 1))] _) (by simp [Value.oneCell']) (by unfold maxLen; omega) (by omega) (by have h1 := hb07.size; have h2 := hbW.size; simp; omega) ?_
             intro v2 w2 hown2 hgrow; have hb08 := below_step hb07 (below_alloc w7 (.cells #[.string x.player, .string (itoaS (z + 1))] 70)); have hbF := (below_step hbW hb08).grown hgrow (by have h1 := hb08.size; have h2 := hbW.size; omega) fun r hr => (own_block hownB r hr).1
             have hx24 := cells_later HX24.out hb08; have hx24E := (hgrow.block X24 (lt_of_heap hx24) (fun e => by obtain ⟨_, cur, hc⟩ := own_block hownB _ e.symm; rw [hx24] at hc; simp at hc)).trans hx24
             refine hK.out _ _ ?_ (fun hHeld => ?_)
             ·(exact ⟨trivial, cell_at hx24E 0 rfl, below_cell hbF g8B⟩)
             clear hK K; try simp only [Act.put, sEt, sE0, sE1]
             refine take_to 12 22 (bQ 13 8191) (v := ?_) o35_30_12 rfl o35_30_ns (by kernel_rfl) (by kernel_rfl) (fun _ _ _ h => h) (by rfl) ?y12q (by assumption) ?_
             case y12q => intro w h; (try dsimp only at h); go_simp; try with_reducible rfl
             simp only [sE0, sE1]; refine wpAnyH_done (by kernel_rfl) ?_ _
             have HO5 : Hid (OwnPa w2 wB.heap.size v2 (pairO l DVL (k + 1))) := Lib.hid (by
              rw [Hst.out]; unfold OwnPa
              have e : ((C0 ++ [(⟨x.player, itoaS (z + 1)⟩ : PaD)]).map paRow).flatten = (C0.map paRow).flatten ++ [.string x.player, .string (itoaS (z + 1))] := by simp [paRow]
              rw [e, List.length_append, List.length_singleton]; exact hown2)
             clear hgrow hown2 hownB hHeld HS hx24 hx24E; go_wp2_with fail
             go_roundw
             case rel => exact ⟨k + 1, by omega, by go_num, HO5, hbF⟩
             case measure => simp [intOf]; omega
            ·obtain rfl : k = j := by omega
             have HO5 := Lib.hid (show OwnPa wr w.heap.size _ (pairO l DVL k) from own_lowerG Hown.out hbB.size)
             have hbe := below_step hbB hb; clear Hown; go_wp2_with fail
             go_ret2
             exact ⟨_, by rw [HR.out]; exact HO5.out, by rw [HR.out]; rfl, hbe⟩
      ·have hmk := make_intsG k (by omega) wc
       go_simp; obtain ⟨wn, hwn⟩ : ∃ wn, wc.alloc (.cells (madeCells #[.int .i64 0] k) 3) = wn := ⟨_, rfl⟩
       have h9 : IntsAt wn wc.heap.size (List.replicate k 0) := by unfold IntsAt; rw [← made_ints, ← hwn]; exact heap_alloc_new wc _
       have hbn : Below wc.heap.size wc wn := by rw [← hwn]; exact below_alloc wc _
       rw [hwn]; clear hwn hmk; have hG9w : wB.heap.size ≤ wc.heap.size := hC.size
       try have hG89 : G8 ≠ wc.heap.size := by have := lt_of_heap h8; omega
       try replace h8 := cells_later h8 hbn
       replace hC := below_step hC hbn; have hS := HS.out _ hC; obtain ⟨G9, hG9⟩ : ∃ G, wc.heap.size = G := ⟨_, rfl⟩
       rw [hG9] at h9 hG9w ⊢
       try rw [hG9] at hG89
       clear hbn hG9; obtain ⟨wc, rfl⟩ : ∃ wc, wc = wn := ⟨_, rfl⟩
       refine hK.out _ _ (fun _ => ?_) ?_
       ·(exact hS)
       clear hK K; try simp only [Act.put, sEt, sE0, sE1]
       refine readyC (rs := [2]) (by kernel_rfl) (by simp) (each_cons (runC o35_13_2 (by rfl) (fun K hK => ?_)) each_nil)
       have hmk := make_intsG k (by omega) wc
       go_simp; obtain ⟨wn, hwn⟩ : ∃ wn, wc.alloc (.cells (madeCells #[.int .i64 0] k) 3) = wn := ⟨_, rfl⟩
       have h8 : IntsAt wn wc.heap.size (List.replicate k 0) := by unfold IntsAt; rw [← made_ints, ← hwn]; exact heap_alloc_new wc _
       have hbn : Below wc.heap.size wc wn := by rw [← hwn]; exact below_alloc wc _
       rw [hwn]; clear hwn hmk; have hG8w : wB.heap.size ≤ wc.heap.size := hC.size
       try have hG98 : G9 ≠ wc.heap.size := by have := lt_of_heap h9; omega
       try replace h9 := cells_later h9 hbn
       replace hC := below_step hC hbn; have hS := HS.out _ hC; obtain ⟨G8, hG8⟩ : ∃ G, wc.heap.size = G := ⟨_, rfl⟩
       rw [hG8] at h8 hG8w ⊢
       try rw [hG8] at hG98
       clear hbn hG8; obtain ⟨wc, rfl⟩ : ∃ wc, wc = wn := ⟨_, rfl⟩
       refine hK.out _ _ (fun _ => ?_) ?_
       ·(exact hS)
       clear hK K; try simp only [Act.put, sEt, sE0, sE1]
       refine loadC 7 15 (v := ?_) o35_13_7 rfl (by kernel_rfl) (by kernel_rfl) (by kernel_rfl) (by kernel_rfl) (fun _ _ _ h => h) (by rfl) ?y7_9 (by exact hS) ?_
       case y7_9 => intro w h; (try dsimp only at h); go_simp; try with_reducible rfl
       simp only [sE0, sE1]; refine loadC 8 16 (v := ?_) o35_13_8 rfl (by kernel_rfl) (by kernel_rfl) (by kernel_rfl) (by kernel_rfl) (fun _ _ _ h => h) (by rfl) ?y8_10 (by exact hS) ?_
       case y8_10 => intro w h; (try dsimp only at h); go_simp; try with_reducible rfl
       simp only [sE0, sE1]; refine loadC 9 17 (v := ?_) o35_13_9 rfl (by kernel_rfl) (by kernel_rfl) (by kernel_rfl) (by kernel_rfl) (fun _ _ _ h => h) (by rfl) ?y9_11 (by exact hS) ?_
       case y9_11 => intro w h; (try dsimp only at h); go_simp; try with_reducible rfl
       simp only [sE0, sE1]; refine doneC (by kernel_rfl) ?_ _
       first | have hG89 := hG89 | have hG89 := Ne.symm hG98
       have H8 : Hid (IntsAt wc G8 (fillI (shr N S l) k 0)) := Lib.hid (by rw [fillI_zero]; exact h8)
       have H9 : Hid (IntsAt wc G9 (fillI (fun i => (i : Int)) k 0)) := Lib.hid (by rw [fillI_zero]; exact h9)
       have Hb5 := Lib.hid hC; have y35 := hS.2.1; clear h8 h9 hC HS hS hb05; go_wp2_with fail
       go_loopw [17, 61] (fun lf i wx => ∃ j : Nat, j ≤ k ∧ i = .int .i64 j ∧ lf = .int .i64 (N - (shrs N S l j).sum) ∧ Hid (IntsAt wx G8 (fillI (shr N S l) k j)) ∧ Hid (IntsAt wx G9 (fillI (fun i => (i : Int)) k j)) ∧ Below wB.heap.size wB wx) (fun _ i _ => k - (intOf i).toNat)
       case atStart => exact ⟨0, Nat.zero_le _, rfl, by simp [shrs], H8, H9, Hb5.out⟩
       case round =>
        clear H8 H9 Hb5 y35; obtain ⟨j, hj, rfl, rfl, H8, H9, hb⟩ := hrel; by_cases hjt : j < k
        ·obtain ⟨x, hx⟩ : ∃ x, l[j]? = some x := ⟨_, List.getElem?_eq_getElem (by rw [Hn.out]; exact hjt)⟩
         obtain ⟨hw0, hw1⟩ := HW.out x (List.mem_of_getElem? hx); obtain ⟨q0, q1, q2⟩ := Hcell.out j x hx; have hbx := below_step hbr hb; have p0 := below_cell hbx q0; have p1 := below_cell hbx q1; have p2 := below_cell hbx q2; obtain ⟨hq, hsh0, hsh1⟩ := shr_bound (S := S) hx hN0 hN1 hw0 hw1 hSp; obtain ⟨ha0, ha1⟩ := HAB.out j (by omega)
         obtain ⟨hm0, hm1⟩ := mulB hN0 hN1 hw0 hw1; have hf8 := fillI_succ (f := shr N S l) hjt; have hf9 := fillI_succ (f := fun i => (i : Int)) hjt
         have Hss := Lib.hid (show (shrs N S l (j + 1)).sum = (shrs N S l j).sum + shr N S l j by rw [shrs_succ, List.sum_append]; simp)
         have e8 := fillI_at (f := shr N S l) (k := j) hjt; have e9 := fillI_at (f := fun i => (i : Int)) (k := j) hjt
         obtain ⟨sh, hsh⟩ : ∃ sh, shr N S l j = sh := ⟨_, rfl⟩
         rw [hsh] at hq hsh0 hsh1 hf8 Hss
         generalize (shrs N S l j).sum = s0 at Hss ha0 ha1
         obtain ⟨wA, hwA⟩ : ∃ wA, wA = wr.alloc (.cells #[.string x.player, .int .i64 x.worth, .int .i64 x.rank] 74) := ⟨_, rfl⟩
         obtain ⟨X12, hX12⟩ : ∃ X12, X12 = wr.heap.size := ⟨_, rfl⟩
         have hbA : Below wr.heap.size wr wA := by rw [hwA]; exact below_alloc wr _
         have hx12 : wA.heap[X12]? = some (.cells #[.string x.player, .int .i64 x.worth, .int .i64 x.rank] 74 (0, 0)) := by rw [hwA, hX12]; exact heap_alloc_new wr _
         have hbw := below_step hb hbA; have h8A : IntsAt wA G8 (fillI (shr N S l) k j) := cells_later H8.out hbA
         have h9A : IntsAt wA G9 (fillI (fun i => (i : Int)) k j) := cells_later H9.out hbA
         have c8 := h8A.cell e8; have c9 := h9A.cell e9; rw [if_neg (Nat.lt_irrefl j)] at c8 c9
         have z2 := below_cell hbw (cell_at HX2r.out 0 rfl); have z5 := below_cell hbw (cell_at H5.out 0 rfl); have x1 := cell_at hx12 1 rfl; have hfz8 := fun o => frozen_ofG h8A o
         have h8B := h8A.put (i := j) sh; rw [hf8] at h8B
         have hg8 := gb_setCell wA G8 j (.int .i64 sh); obtain ⟨W', hW'⟩ : ∃ W', wA.setCell ⟨G8, j, none⟩ (.int .i64 sh) = W' := ⟨_, rfl⟩
         rw [hW'] at h8B hg8
         have h9B : IntsAt W' G9 (fillI (fun i => (i : Int)) k j) := heap_gbG h9A hg8 (Ne.symm hG89)
         have c9B := gb_cell hg8 c9 (Ne.symm hG89); have c8B := h8B.cell (fillI_at (k := j + 1) hjt); rw [if_pos (Nat.lt_succ_self j), hsh] at c8B
         have hfz9 := fun o => frozen_ofG h9B o
         have h9C := h9B.put (i := j) ((j : Nat) : Int); rw [hf9] at h9C
         have hg9 := gb_setCell W' G9 j (.int .i64 ((j : Nat) : Int)); obtain ⟨W'', hW''⟩ : ∃ W'', W'.setCell ⟨G9, j, none⟩ (.int .i64 ((j : Nat) : Int)) = W'' := ⟨_, rfl⟩
         rw [hW''] at h9C hg9
         have H8C : Hid (IntsAt W'' G8 (fillI (shr N S l) k (j + 1))) := Lib.hid (heap_gbG h8B hg9 hG89)
         have c8C := gb_cell hg9 c8B hG89; have H9C := Lib.hid h9C; have hbE := below_gbG (below_gbG hbw hg8 hG8w) hg9 hG9w; have hwm : IntKind.i64.wrap (N * x.worth) = N * x.worth := IntWalk.i64_in _ (by omega)
         have hwq : IntKind.i64.wrap sh = sh := IntWalk.i64_in _ (by omega)
         have hS1 : S ≠ 0 := by omega
         clear hx q0 q1 q2 hbx H8 H9 hb h8A h9A h8B h9B h9C hg8 hg9 hx12 hf8 hf9 e8 e9 hsh hbw; go_upto_region 17 with fail
         rw [← hwA, ← hX12]; clear hwA hX12 hbA p0 p1 p2; go_wp2_with fail
         go_roundw
         case rel => exact ⟨j + 1, by omega, by go_num, by rw [Hss.out]; congr 1; omega, H8C, H9C, hbE⟩
         case measure => simp [intOf]; omega
        ·obtain rfl : j = k := by omega
         have hjm : j = m + 1 := by rw [← Hn.out, HL.out]
         have HLB2 := HLB.out; have HDR2 := HDR.out; rw [Hn.out] at HLB2 HDR2
         obtain ⟨LF, hLF⟩ : ∃ LF : Nat, N - (shrs N S l j).sum = (LF : Int) := ⟨_, (Int.toNat_of_nonneg HLB2.1).symm⟩
         rw [hLF] at HLB2 HDR2 ⊢
         rw [Int.toNat_natCast] at HDR2
         have hLFj : LF ≤ j := by omega
         have h8 : IntsAt wr G8 (shrs N S l j) := by
          have h := H8.out; rw [fillI_full] at h
          exact h
         have h9 : FinsAt wr G9 (List.finRange (m + 1)) := by
          have h := H9.out; unfold IntsAt at h
          rw [fillI_full, hjm, fin_list] at h
          exact h
         have hSHb : ∀ z ∈ shrs N S l j, 0 ≤ z ∧ z ≤ 1000000000000000 := fun z hz => by
          obtain ⟨i, hi, rfl⟩ := List.mem_map.1 hz; have hi2 : i < l.length := by rw [Hn.out]; exact List.mem_range.1 hi
          have hx := List.getElem?_eq_getElem hi2; obtain ⟨a, b⟩ := HW.out _ (List.getElem_mem hi2); exact (shr_bound (S := S) hx hN0 hN1 a b hSp).2
         obtain ⟨SH, hSH⟩ : ∃ SH, shrs N S l j = SH := ⟨_, rfl⟩
         have hSHl : SH.length = j := by rw [← hSH]; unfold shrs; simp
         rw [hSH] at h8 hSHb HDR2
         have hbB6 := hb; have h96 := h9; have hb06 := below_step hbr hbB6; have h86 := h8
         have hDA : DivAt wr (w3.heap.size + 1) w3.heap.size (w3.heap.size + 1 + 1) N g off c l S := by
          refine ⟨below_cell hbB6 (cell_at HX2r.out 0 rfl), ?_, below_cell hbB6 (cell_at H5.out 0 rfl), fun i x hx => below_cell hb06 (Hcell.out i x hx).2.1⟩
          rw [Hn.out]; exact below_cell hbB6 (cell_at HX3r.out 0 rfl)
         have h8lt := lt_of_heap h8; have h9lt := h9.lt
         have DS := Lib.hid (sortStableIn_calls (fun i k : Fin (m + 1) => cmpRem N S l i.val k.val) 99 #[.pointer (some ⟨w3.heap.size + 1, 0, none⟩), .pointer (some ⟨w3.heap.size, 0, none⟩), .pointer (some ⟨w3.heap.size + 1 + 1, 0, none⟩)] G9 j (List.finRange (m + 1)) wr h96 (by simp; omega) (enters_of Tryz.func99 (by kernel_rfl) rfl) fun W a b hgW => by
          have ha : a.val < l.length := by rw [HL.out]; exact a.isLt
          have hb' : b.val < l.length := by rw [HL.out]; exact b.isLt
          have hxa := List.getElem?_eq_getElem ha; have hxb := List.getElem?_eq_getElem hb'; obtain ⟨a0, a1⟩ := HW.out _ (List.getElem_mem ha); obtain ⟨b0, b1⟩ := HW.out _ (List.getElem_mem hb'); exact pricesOf2_calls _ _ _ g off c N S l a.val b.val _ _ W (hDA.kept hgW (by omega) (by omega) (by omega) (by omega)) hxa hxb (by rw [Hn.out]; omega) hN0 hN1 a0 a1 b0 b1 hSp (by omega))
         have hlen : (List.finRange (m + 1)).length = j := by rw [List.length_finRange, hjm]
         rw [hlen] at DS
         unfold SortedIn at DS
         have hOLl := insL_len (fun i k : Fin (m + 1) => cmpRem N S l i.val k.val) (List.finRange (m + 1))
         rw [hlen] at hOLl
         generalize insL (fun i k : Fin (m + 1) => cmpRem N S l i.val k.val) (List.finRange (m + 1)) = OL at DS HDR2 hOLl
         have HDR3 := Lib.hid HDR2; have HSl := Lib.hid hSHl; have HSB := Lib.hid hSHb; have HOL := Lib.hid hOLl; have H86 := Lib.hid h86; have Hb06 := Lib.hid hbB6; have HJm := Lib.hid hjm; clear H8 H9 h8 h9 hb hLF HDR HLB HAB hSH hbB6 h96 hDA hlen HDR2 hSHl hSHb hOLl h86 hb06 HLB2 hjm; go_wp2_with fail
         refine DS.out.mono ?_; rintro e w7 ⟨rfl, h97, hg7⟩; have H87 : Hid (IntsAt w7 G8 SH) := Lib.hid (heap_gbG H86.out hg7 hG89)
         have H97 := Lib.hid h97; have hb07 := below_gbG Hb06.out hg7 (by omega)
         clear DS H86 Hb06 hg7 h97; go_wp2_with fail
         go_loopw [93] (fun i wx => ∃ q : Nat, q ≤ LF ∧ i = .int .i64 q ∧ Hid (IntsAt wx G8 (bump SH ((OL.map Fin.val).take q))) ∧ Hid (FinsAt wx G9 OL) ∧ Below wB.heap.size wB wx) (fun i _ => LF - (intOf i).toNat)
         case atStart => exact ⟨0, Nat.zero_le _, rfl, H87, H97, hb07⟩
         case round =>
          clear H87 H97 hb07; obtain ⟨q, hq, rfl, H8, H9, hb⟩ := hrel; by_cases hqt : q < LF
          ·obtain ⟨o, ho⟩ : ∃ o, OL[q]? = some o := ⟨_, List.getElem?_eq_getElem (by rw [HOL.out]; omega)⟩
           have hov : (OL.map Fin.val)[q]? = some o.val := by simp [ho]
           have hoj : o.val < j := by rw [HJm.out]; exact o.isLt
           have Hbs := Lib.hid (show bump SH ((OL.map Fin.val).take (q + 1)) = (bump SH ((OL.map Fin.val).take q)).set o.val ((bump SH ((OL.map Fin.val).take q))[o.val]?.getD 0 + 1) by rw [take_snocG hov, bump_snoc])
           have c9 : wr.cell? ⟨G9, q, none⟩ = some (.int .i64 ((o.val : Nat) : Int)) := by
            rw [cell_of_row wr G9 q _ 3 (0, 0) H9.out]; simp [ho, finV]
           have hbl : (bump SH ((OL.map Fin.val).take q)).length = j := by rw [bump_len, HSl.out]
           have hbb := bump_bound (B := 1000000000000012) ((OL.map Fin.val).take q) SH 1000000000000000 HSB.out (by omega) (by rw [List.length_take]; omega)
           generalize bump SH ((OL.map Fin.val).take q) = BS at H8 Hbs hbl hbb
           obtain ⟨z, hz⟩ : ∃ z, BS[o.val]? = some z := ⟨_, List.getElem?_eq_getElem (by rw [hbl]; exact hoj)⟩
           obtain ⟨hz0, hz1⟩ := hbb z (List.mem_of_getElem? hz); rw [hz] at Hbs
           have c8 := H8.out.cell hz; have hfz := fun o => frozen_ofG H8.out o
           have h8B := H8.out.put (i := o.val) (z + 1); have hg8 := gb_setCell wr G8 o.val (.int .i64 (z + 1)); have HE := Lib.hid (show IntsAt (wr.setCell ⟨G8, o.val, none⟩ (.int .i64 (z + 1))) G8 (bump SH ((OL.map Fin.val).take (q + 1))) by rw [Hbs.out]; exact h8B)
           have HE9 : Hid (FinsAt (wr.setCell ⟨G8, o.val, none⟩ (.int .i64 (z + 1))) G9 OL) := Lib.hid (heap_gbG H9.out hg8 (Ne.symm hG89))
           have hbE := below_gbG hb hg8 (by omega)
           generalize o.val = ov at c9 hoj c8 HE HE9 hbE
           clear ho hov hbl hbb hz h8B hg8 H8 H9; go_wp2_with fail
           go_roundw
           case rel => exact ⟨q + 1, by omega, by go_num, HE, HE9, hbE⟩
           case measure => simp [intOf]; omega
          ·obtain rfl : q = LF := by omega
           have HEnd := Lib.hid (show IntsAt wr G8 (divR N l) by rw [HDR3.out]; exact H8.out)
           have hlenD : (divR N l).length = j := by rw [HDR3.out, bump_len, HSl.out]
           have HlD := Lib.hid hlenD; have HDb := Lib.hid (divR_bound hN0 hN1 HW.out (by rw [Hn.out]; exact hn12))
           have HR := Lib.hid (show PV = (pairO l (divR N l) j, 0) from HPV3.out)
           generalize divR N l = DVL at HEnd HlD HDb HR
           have hbB := below_step hb03 (below_step hbr hb); have HlO := Lib.hid (HOv.out.below (below_step hbr hb)); have y10 := below_cell hb (cell_at HX3r.out 0 rfl); clear H8 H9 hlenD hb; obtain ⟨wB, rfl⟩ : ∃ wB, wB = wr := ⟨_, rfl⟩
           go_wp2_with fail
           go_loopw [22, 106] (fun q i wr => ∃ k : Nat, k ≤ j ∧ i = .int .i64 k ∧ Hid (OwnPa wr wB.heap.size q (pairO l DVL k)) ∧ Below wB.heap.size wB wr) (fun _ i _ => j - (intOf i).toNat)
           case atStart => exact ⟨0, Nat.zero_le _, rfl, Lib.hid (by simpa [pairO, OwnPa] using World.ownsRow_nil _ _ _ _), Below.refl _ _⟩
           case round =>
            obtain ⟨k, hk, rfl, Hown, hb⟩ := hrel; by_cases hlt : k < j
            ·obtain ⟨x, hx⟩ : ∃ x, l[k]? = some x := ⟨_, List.getElem?_eq_getElem (by rw [Hn.out]; exact hlt)⟩
             obtain ⟨z, hz⟩ : ∃ z, DVL[k]? = some z := ⟨_, List.getElem?_eq_getElem (by rw [HlD.out]; exact hlt)⟩
             obtain ⟨hzb0, hzb1⟩ := HDb.out k z hz; have hst := pairO_succ hx hz; rw [Int.add_comm 1 z] at hst
             have hni : Int64 (z + 1) := by unfold Int64; omega
             have hwz : IntKind.i64.wrap (z + 1) = z + 1 := IntWalk.i64_in _ (by omega)
             have Hst := Lib.hid hst; rcases ov_at HlO.out with ⟨_, h⟩ | ⟨g2, off2, cap2, e, _, hgl2, _, hcell⟩
             ·rw [h] at hx; simp at hx
             have e' : g2 = g ∧ off2 = off := by simp only [Value.slice.injEq, Option.some.injEq, Addr.mk.injEq] at e; exact ⟨e.1.1.symm, e.1.2.1.symm⟩
             obtain ⟨rfl, rfl⟩ := e'; obtain ⟨q0, q1, q2⟩ := hcell k x hx; have p0 := below_cell hb q0; have p1 := below_cell hb q1; have p2 := below_cell hb q2; have g8B := HEnd.out.cell hz; obtain ⟨wA, hwA⟩ : ∃ wA, wA = wr.alloc (.cells #[.string x.player, .int .i64 x.worth, .int .i64 x.rank] 74) := ⟨_, rfl⟩
             obtain ⟨X24, hX24⟩ : ∃ X24, X24 = wr.heap.size := ⟨_, rfl⟩
             have hbA : Below wr.heap.size wr wA := by rw [hwA]; exact below_alloc wr _
             have hx24 : wA.heap[X24]? = some (.cells #[.string x.player, .int .i64 x.worth, .int .i64 x.rank] 74 (0, 0)) := by rw [hwA, hX24]; exact heap_alloc_new wr _
             have hbW := below_step hb hbA; have hbw := below_step hbB hbW; have HO := Lib.hid (own_belowG Hown.out hbA); have HX24 := Lib.hid hx24; have x0 := cell_at hx24 0 rfl; have g8A := below_cell hbW g8B; have hcl : (pairO l DVL k).length ≤ 12 := by rw [pairO_len]; omega
             generalize pairO l DVL k = C0 at HO Hst hcl
             have HS := Lib.hid (show ∀ w', Below wA.heap.size wA w' → (True ∧ w'.cell? ⟨X24, 0, none⟩ = some (.string x.player) ∧ w'.cell? ⟨G8, k, none⟩ = some (.int .i64 z)) from fun w' hb => ⟨trivial, below_cell hb x0, below_cell hb g8A⟩)
             have hbd := (Below.refl wA.heap.size wA).drew; clear hcell q0 q1 q2 hb hx hz Hown hst e hx24; go_upto_region 30 with fail
             rw [← hwA, ← hX24]; clear hwA hX24 hbA p0 p1 p2 x0 g8A; show Code.wp _ (Code.region 30 o35_30 true) _ _ _
             refine region_start 13 (fun w' => True ∧ w'.cell? ⟨X24, 0, none⟩ = some (.string x.player) ∧ w'.cell? ⟨G8, k, none⟩ = some (.int .i64 z)) (by kernel_rfl) rfl ?_ (fun hHeld => ?_)
             ·(exact HS.out _ (by first | exact hbd | exact hb07 | exact below_step hb07 (below_alloc _ _)))
             refine take_to 0 111 (bQ 13 1) (v := ?_) o35_30_0 rfl o35_30_ns (by kernel_rfl) (by kernel_rfl) (fun _ _ _ h => h) (by rfl) ?y0q (by assumption) ?_
             case y0q => intro w h; (try dsimp only at h); go_simp; try with_reducible rfl
             simp only [sE0, sE1]; refine take_to 1 112 (bQ 13 3) (v := ?_) o35_30_1 rfl o35_30_ns (by kernel_rfl) (by kernel_rfl) (fun _ _ _ h => h) (by rfl) ?y1q (by assumption) ?_
             case y1q => intro w h; (try dsimp only at h); go_simp; try with_reducible rfl
             simp only [sE0, sE1]; refine take_to 2 113 (bQ 13 7) (v := ?_) o35_30_2 rfl o35_30_ns (by kernel_rfl) (by kernel_rfl) (fun _ _ _ h => h) (by rfl) ?y2q (by assumption) ?_
             case y2q => intro w h; (try dsimp only at h); go_simp; try with_reducible rfl
             simp only [sE0, sE1]; refine take_to 3 114 (bQ 13 15) (v := ?_) o35_30_3 rfl o35_30_ns (by kernel_rfl) (by kernel_rfl) (fun _ _ _ h => h) (by rfl) ?y3q (by assumption) ?_
             case y3q => intro w h; (try dsimp only at h); go_simp; try with_reducible rfl
             simp only [sE0, sE1]; refine take_to 4 115 (bQ 13 31) (v := ?_) o35_30_4 rfl o35_30_ns (by kernel_rfl) (by kernel_rfl) (fun _ _ _ h => h) (by rfl) ?y4q (by assumption) ?_
             case y4q => intro w h; (try dsimp only at h); go_simp; try with_reducible rfl
             simp only [sE0, sE1]; refine take_to 5 116 (bQ 13 63) (v := ?_) o35_30_5 rfl o35_30_ns (by kernel_rfl) (by kernel_rfl) (fun _ _ _ h => h) (by rfl) ?y5q (by assumption) ?_
             case y5q => intro w h; (try dsimp only at h); go_simp; try with_reducible rfl
             simp only [sE0, sE1]; refine take_to 6 117 (bQ 13 127) (v := ?_) o35_30_6 rfl o35_30_ns (by kernel_rfl) (by kernel_rfl) (fun _ _ _ h => h) (by rfl) ?y6q (by assumption) ?_
             case y6q => intro w h; (try dsimp only at h); go_simp; try with_reducible rfl
             simp only [sE0, sE1]; refine take_to 7 118 (bQ 13 255) (v := .int .i64 (z + 1)) o35_30_7 rfl o35_30_ns (by kernel_rfl) (by kernel_rfl) (fun _ _ _ h => h) (by rfl) ?y7q (by assumption) ?_
             case y7q =>
              intro w hSw; try dsimp only at hSw
              go_simp; try rw [hwz]
              try with_reducible rfl
             simp only [sE0, sE1]; refine run_to 8 (bQ 13 511) o35_30_8 (by kernel_rfl) (by kernel_rfl) (by rfl) (fun K hK => ?_)
             go_simp; refine (itoa_calls (z + 1) _ hni (HD.out _ (below_step hbw hbd))).mono ?_; rintro e w7 ⟨rfl, hb7⟩; have hb07 := below_step hbd hb7; go_wp2_with fail
             refine hK.out _ _ ?_ (fun hHeld => ?_)
             ·(exact HS.out _ (by first | exact hbd | exact hb07 | exact below_step hb07 (below_alloc _ _)))
             clear hK K; try simp only [Act.put, sEt, sE0, sE1]
             refine run_to 9 (bQ 13 1023) o35_30_9 (by kernel_rfl) (by kernel_rfl) (by rfl) (fun K hK => ?_)
             go_simp; refine hK.out _ _ ?_ (fun hHeld => ?_)
             ·(exact HS.out _ (by first | exact hbd | exact hb07 | exact below_step hb07 (below_alloc _ _)))
             clear hK K; try simp only [Act.put, sEt, sE0, sE1]
             refine run_to 10 (bQ 13 2047) o35_30_10 (by kernel_rfl) (by kernel_rfl) (by rfl) (fun K hK => ?_)
             go_simp; refine hK.out _ _ ?_ (fun hHeld => ?_)
             ·(exact HS.out _ (by first | exact hbd | exact hb07 | exact below_step hb07 (below_alloc _ _)))
             clear hK K; try simp only [Act.put, sEt, sE0, sE1]
             refine run_to 11 (bQ 13 4095) o35_30_11 (by kernel_rfl) (by kernel_rfl) (by rfl) (fun K hK => ?_)
             have hownB := World.ownsRow.alloc (own_belowG HO.out hb07) (.cells #[.string x.player, .string (itoaS (z + 1))] 70); refine wp_append_at _ (.tmp 111) (.tmp 121) 59 rfl wB.heap.size 70 i0 (.agg #[.string ⟨#[]⟩, .string ⟨#[]⟩]) 2 32 Tryz.underlying59 hi hz0 hz1 hz2 rfl (by decide) _ C0.length _ rfl hownB _ 1 1 [.string x.player, .string (itoaS (z + 1))] rfl rfl (cells_newG w7 [.string x.player, .string (itoaS (z + 1))] _) (by simp [Value.oneCell']) (by unfold maxLen; omega) (by omega) (by have h1 := hb07.size; have h2 := hbW.size; simp; omega) ?_
             intro v2 w2 hown2 hgrow; have hb08 := below_step hb07 (below_alloc w7 (.cells #[.string x.player, .string (itoaS (z + 1))] 70)); have hbF := (below_step hbW hb08).grown hgrow (by have h1 := hb08.size; have h2 := hbW.size; omega) fun r hr => (own_block hownB r hr).1
             have hx24 := cells_later HX24.out hb08; have hx24E := (hgrow.block X24 (lt_of_heap hx24) (fun e => by obtain ⟨_, cur, hc⟩ := own_block hownB _ e.symm; rw [hx24] at hc; simp at hc)).trans hx24
             refine hK.out _ _ ?_ (fun hHeld => ?_)
             ·(exact ⟨trivial, cell_at hx24E 0 rfl, below_cell hbF g8B⟩)
             clear hK K; try simp only [Act.put, sEt, sE0, sE1]
             refine take_to 12 22 (bQ 13 8191) (v := ?_) o35_30_12 rfl o35_30_ns (by kernel_rfl) (by kernel_rfl) (fun _ _ _ h => h) (by rfl) ?y12q (by assumption) ?_
             case y12q => intro w h; (try dsimp only at h); go_simp; try with_reducible rfl
             simp only [sE0, sE1]; refine wpAnyH_done (by kernel_rfl) ?_ _
             have HO5 : Hid (OwnPa w2 wB.heap.size v2 (pairO l DVL (k + 1))) := Lib.hid (by
              rw [Hst.out]; unfold OwnPa
              have e : ((C0 ++ [(⟨x.player, itoaS (z + 1)⟩ : PaD)]).map paRow).flatten = (C0.map paRow).flatten ++ [.string x.player, .string (itoaS (z + 1))] := by simp [paRow]
              rw [e, List.length_append, List.length_singleton]; exact hown2)
             clear hgrow hown2 hownB hHeld HS hx24 hx24E; go_wp2_with fail
             go_roundw
             case rel => exact ⟨k + 1, by omega, by go_num, HO5, hbF⟩
             case measure => simp [intOf]; omega
            ·obtain rfl : k = j := by omega
             have HO5 := Lib.hid (show OwnPa wr w.heap.size _ (pairO l DVL k) from own_lowerG Hown.out hbB.size)
             have hbe := below_step hbB hb; clear Hown; go_wp2_with fail
             go_ret2
             exact ⟨_, by rw [HR.out]; exact HO5.out, by rw [HR.out]; rfl, hbe⟩

end Go.Proofs.YtddnnjblpgfjeaaGreatDoor
