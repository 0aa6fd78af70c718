/- Numbers put in order by a comparing function, stably: at most 19, each below their number. -/
import Derived.Test.YtddnnjblpgfjeaaGreatDoorMgat
import Derived.Deep.OwnRows
import Derived.Laws.EntriesVeiled
import Derived.Test.YtddnnjblpgfjeaaGreatDoorMgap
import Derived.Test.YtddnnjblpgfjeaaGreatDoorMgaf
/- Whom a team fields: the program's way. -/
namespace Go.Proofs.YtddnnjblpgfjeaaGreatDoor
open Go.RowKit

theorem info_intG : (Tryz.prog.info? 3).map (fun i => (i.zero, i.size, i.bytes)) = some (some (.int .i64 0), 1, 8) := by kernel_rfl
theorem make_intsG (P : Nat) (hP : P ≤ 1000) (w : World) : (Instr.makeSlice 22 (.int .i64 (P : Int)) (.int .i64 (P : Int))).run Tryz.prog w = .ok (.slice (some ⟨w.heap.size, 0, none⟩) P P) (w.alloc (.cells (madeCells #[.int .i64 0] P) 3)) :=
 run_make_row' 22 3 (.int .i64 0) 8 Tryz.underlying22 info_intG rfl .i64 .i64 P (by omega) (by omega) w
def natV (z : Nat) : Value := .int .i64 (z : Int)
theorem made_natV (P : Nat) : madeCells #[.int .i64 0] P = ((List.replicate P 0).map natV).toArray := by
 apply Array.toList_inj.1
 rw [toList_madeCells_one]
 simp [natV]
theorem ints_put {w : World} {M pi z T : Nat} {m : List Nat} (h : w.heap[M]? = some (.cells (m.map natV).toArray T (0, 0))) : (w.setCell ⟨M, pi, none⟩ (natV z)).heap[M]? = some (.cells ((m.set pi z).map natV).toArray T (0, 0)) := by
 simp [World.setCell, Array.getElem?_modify, h, List.map_set]
theorem nat_cell {w : World} {M pi z T : Nat} {m : List Nat} (h : w.heap[M]? = some (.cells (m.map natV).toArray T (0, 0))) (hz : m[pi]? = some z) : w.cell? ⟨M, pi, none⟩ = some (.int .i64 ((z : Nat) : Int)) := by
 rw [cell_of_row w M pi _ T (0, 0) h]
 simp [hz, natV]
theorem own_lowerG {w : World} {base base' T sz n : Nat} {v : Value} {xs : List Value} (h : w.ownsRow base T sz v n xs) (hb : base' ≤ base) : w.ownsRow base' T sz v n xs :=
 ⟨h.1, h.2.imp id fun ⟨g, cap, cur, e, hg, r⟩ => ⟨g, cap, cur, e, Nat.le_trans hb hg, r⟩⟩
/-- Candidates in memory of the call's own. -/
def MadeCa (cs : List (AsD × Nat)) (w : World) (e : Ending) (w' : World) : Prop := ∃ v, OwnCa w' w.heap.size v cs ∧ e = .returned v ∧ Below w.heap.size w w'
def o105_6 : Array Go.Oper := #[
 ⟨some 20, .move (.tmp 5), 22, "field.go:94", #[], none⟩,
 ⟨some 21, .fieldAddr 146 (.tmp 8) 1, 0, "field.go:94", #[], none⟩,
 ⟨some 22, .load 3 (.tmp 21), 3, "field.go:94", #[⟨1, .data⟩], none⟩,
 ⟨some 23, .indexAddr 22 (.tmp 20) (.tmp 22), 0, "field.go:94", #[⟨0, .data⟩, ⟨2, .data⟩], none⟩,
 ⟨some 24, .load 3 (.tmp 23), 3, "field.go:94", #[⟨3, .data⟩], none⟩,
 ⟨some 25, .fieldAddr 142 (.tmp 2) 0, 0, "field.go:94", #[], none⟩,
 ⟨some 26, .load 54 (.tmp 25), 54, "field.go:94", #[⟨5, .data⟩], none⟩,
 ⟨some 27, .fieldAddr 146 (.tmp 8) 1, 0, "field.go:94", #[], none⟩,
 ⟨some 28, .load 3 (.tmp 27), 3, "field.go:94", #[⟨7, .data⟩], none⟩,
 ⟨some 29, .indexAddr 54 (.tmp 26) (.tmp 28), 0, "field.go:94", #[⟨6, .data⟩, ⟨8, .data⟩], none⟩,
 ⟨some 30, .fieldAddr 125 (.tmp 29) 1, 0, "field.go:94", #[⟨9, .data⟩], none⟩,
 ⟨some 31, .load 3 (.tmp 30), 3, "field.go:94", #[⟨10, .data⟩], none⟩,
 ⟨some 32, .binOp .lss 3 (.tmp 24) (.tmp 31) 3, 4, "field.go:94", #[⟨4, .data⟩, ⟨11, .data⟩], none⟩,
 ⟨some 33, .move (.tmp 32), 4, "field.go:94", #[⟨12, .data⟩], none⟩,
 ⟨some 34, .move (.tmp 1), 127, "field.go:94", #[⟨13, .guard⟩], some (13, true)⟩,
 ⟨some 35, .fieldAddr 146 (.tmp 8) 0, 0, "field.go:94", #[⟨13, .guard⟩], some (13, true)⟩,
 ⟨some 36, .fieldAddr 78 (.tmp 35) 0, 0, "field.go:94", #[⟨15, .data⟩, ⟨13, .guard⟩], some (13, true)⟩,
 ⟨some 37, .load 9 (.tmp 36), 9, "field.go:94", #[⟨16, .data⟩, ⟨13, .guard⟩], some (13, true)⟩,
 ⟨some 38, .call { callee := .value (.tmp 34), args := #[.tmp 37], argTypes := #[9] }, 4, "field.go:94", #[⟨14, .data⟩, ⟨17, .data⟩, ⟨13, .chain⟩, ⟨13, .guard⟩], some (13, true)⟩,
 ⟨some 39, .pick (.tmp 33) (.tmp 38) (.const (.bool false)), 4, "field.go:94", #[⟨13, .data⟩, ⟨18, .data⟩], none⟩]
theorem o105_6_0 : o105_6[0]? = some (⟨some 20, .move (.tmp 5), 22, "field.go:94", #[], none⟩ : Go.Oper) := rfl
theorem o105_6_1 : o105_6[1]? = some (⟨some 21, .fieldAddr 146 (.tmp 8) 1, 0, "field.go:94", #[], none⟩ : Go.Oper) := rfl
theorem o105_6_2 : o105_6[2]? = some (⟨some 22, .load 3 (.tmp 21), 3, "field.go:94", #[⟨1, .data⟩], none⟩ : Go.Oper) := rfl
theorem o105_6_3 : o105_6[3]? = some (⟨some 23, .indexAddr 22 (.tmp 20) (.tmp 22), 0, "field.go:94", #[⟨0, .data⟩, ⟨2, .data⟩], none⟩ : Go.Oper) := rfl
theorem o105_6_4 : o105_6[4]? = some (⟨some 24, .load 3 (.tmp 23), 3, "field.go:94", #[⟨3, .data⟩], none⟩ : Go.Oper) := rfl
theorem o105_6_5 : o105_6[5]? = some (⟨some 25, .fieldAddr 142 (.tmp 2) 0, 0, "field.go:94", #[], none⟩ : Go.Oper) := rfl
theorem o105_6_6 : o105_6[6]? = some (⟨some 26, .load 54 (.tmp 25), 54, "field.go:94", #[⟨5, .data⟩], none⟩ : Go.Oper) := rfl
theorem o105_6_7 : o105_6[7]? = some (⟨some 27, .fieldAddr 146 (.tmp 8) 1, 0, "field.go:94", #[], none⟩ : Go.Oper) := rfl
theorem o105_6_8 : o105_6[8]? = some (⟨some 28, .load 3 (.tmp 27), 3, "field.go:94", #[⟨7, .data⟩], none⟩ : Go.Oper) := rfl
theorem o105_6_9 : o105_6[9]? = some (⟨some 29, .indexAddr 54 (.tmp 26) (.tmp 28), 0, "field.go:94", #[⟨6, .data⟩, ⟨8, .data⟩], none⟩ : Go.Oper) := rfl
theorem o105_6_10 : o105_6[10]? = some (⟨some 30, .fieldAddr 125 (.tmp 29) 1, 0, "field.go:94", #[⟨9, .data⟩], none⟩ : Go.Oper) := rfl
theorem o105_6_11 : o105_6[11]? = some (⟨some 31, .load 3 (.tmp 30), 3, "field.go:94", #[⟨10, .data⟩], none⟩ : Go.Oper) := rfl
theorem o105_6_12 : o105_6[12]? = some (⟨some 32, .binOp .lss 3 (.tmp 24) (.tmp 31) 3, 4, "field.go:94", #[⟨4, .data⟩, ⟨11, .data⟩], none⟩ : Go.Oper) := rfl
theorem o105_6_13 : o105_6[13]? = some (⟨some 33, .move (.tmp 32), 4, "field.go:94", #[⟨12, .data⟩], none⟩ : Go.Oper) := rfl
theorem o105_6_14 : o105_6[14]? = some (⟨some 34, .move (.tmp 1), 127, "field.go:94", #[⟨13, .guard⟩], some (13, true)⟩ : Go.Oper) := rfl
theorem o105_6_15 : o105_6[15]? = some (⟨some 35, .fieldAddr 146 (.tmp 8) 0, 0, "field.go:94", #[⟨13, .guard⟩], some (13, true)⟩ : Go.Oper) := rfl
theorem o105_6_16 : o105_6[16]? = some (⟨some 36, .fieldAddr 78 (.tmp 35) 0, 0, "field.go:94", #[⟨15, .data⟩, ⟨13, .guard⟩], some (13, true)⟩ : Go.Oper) := rfl
theorem o105_6_17 : o105_6[17]? = some (⟨some 37, .load 9 (.tmp 36), 9, "field.go:94", #[⟨16, .data⟩, ⟨13, .guard⟩], some (13, true)⟩ : Go.Oper) := rfl
theorem o105_6_18 : o105_6[18]? = some (⟨some 38, .call { callee := .value (.tmp 34), args := #[.tmp 37], argTypes := #[9] }, 4, "field.go:94", #[⟨14, .data⟩, ⟨17, .data⟩, ⟨13, .chain⟩, ⟨13, .guard⟩], some (13, true)⟩ : Go.Oper) := rfl
theorem o105_6_19 : o105_6[19]? = some (⟨some 39, .pick (.tmp 33) (.tmp 38) (.const (.bool false)), 4, "field.go:94", #[⟨13, .data⟩, ⟨18, .data⟩], none⟩ : Go.Oper) := rfl
theorem o105_6_ns : Go.Region.noSelect o105_6 = true := by kernel_rfl
set_option maxRecDepth 100000 in
set_option maxHeartbeats 8000000 in
theorem fielded_calls (lo lo' : Nat) (u cv : Value) (ps : List PlD) (cs : List (AsD × Nat)) (has : ByteArray → Bool) (G : Nat) (caps : Array Value) (w : World) (hP : Pls w lo' u ps) (hC : Cas w lo cv cs) (hl : ∀ c ∈ cs, c.2 < ps.length) (hm : ps.length ≤ 1000) (hn : cs.length ≤ 1000) (hps : ∀ y ∈ ps, SmallP y)
  (eg : ∀ args w, (callFunc G args).run Tryz.prog w = .ok (.enter G args) w) (hp : ∀ (W : World) (k : ByteArray), Below w.heap.size w W → Calls Tryz.prog G (#[.string k] ++ caps) W (BoolIs (has k) W)) :
  Calls Tryz.prog 105 #[.agg #[u, cv], .func (.func G) #[] caps] w (MadeCa (fldP ps has cs (List.replicate ps.length 0)) w) := by
 obtain ⟨i0, hi, hz0, hz1, hz2⟩ := info_parts info_Ca
 have Hp := Lib.hid hp
 have Hps := Lib.hid hps
 have HPat := Lib.hid (pl_at hP)
 have HCat := Lib.hid (ca_at hC)
 have Hl := Lib.hid hl
 obtain ⟨pa, pc, hue⟩ := pl_shape hP
 obtain ⟨ca, cc, hce⟩ := ca_shape hC
 obtain ⟨np, hnp⟩ : ∃ np, ps.length = np := ⟨_, rfl⟩
 obtain ⟨n, hnn⟩ : ∃ n, cs.length = n := ⟨_, rfl⟩
 have Hnp := Lib.hid hnp
 have Hn := Lib.hid hnn
 rw [hnp] at hue hm
 rw [hnn] at hce hn
 rw [hue, hnp] at HPat
 rw [hce, hnn] at HCat
 rw [hue, hce, hnp]
 obtain ⟨FP, hFP⟩ : ∃ FP, fldP ps has cs (List.replicate np 0) = FP := ⟨_, rfl⟩
 have HFP := Lib.hid hFP
 rw [hFP]
 obtain ⟨W0, hW0⟩ : ∃ W0, W0 = w.alloc (.cells #[.slice pa np pc, .slice ca n cc] 142) := ⟨_, rfl⟩
 have hb0 : Below w.heap.size w W0 := by rw [hW0]; exact below_alloc w _
 have hX2 : W0.heap[w.heap.size]? = some (.cells #[.slice pa np pc, .slice ca n cc] 142 (0, 0)) := by rw [hW0]; exact heap_alloc_new w _
 have hz0' : W0.heap.size = w.heap.size + 1 := by rw [hW0]; simp
 have x0 := cell_at hX2 0 rfl
 have x1 := cell_at hX2 1 rfl
 have hmk := make_intsG np hm W0
 obtain ⟨W, hW⟩ : ∃ W, W0.alloc (.cells (madeCells #[.int .i64 0] np) 3) = W := ⟨_, rfl⟩
 have hM : W.heap[w.heap.size + 1]? = some (.cells ((List.replicate np 0).map natV).toArray 3 (0, 0)) := by rw [← hW, ← hz0', ← made_natV]; exact heap_alloc_new W0 _
 have hbW : Below w.heap.size w W := by rw [← hW]; exact below_step hb0 (below_alloc W0 _)
 have hX2W : W.heap[w.heap.size]? = some (.cells #[.slice pa np pc, .slice ca n cc] 142 (0, 0)) := by rw [← hW]; exact heap_alG hX2 _
 have hWz : W.heap.size = w.heap.size + 2 := by rw [← hW]; simp [hz0']
 rw [hW, hz0'] at hmk
 have HM := Lib.hid hM
 have HbW := Lib.hid hbW
 have HX2W := Lib.hid hX2W
 have HWz := Lib.hid hWz
 clear hP hC hl hps hp hnp hnn hue hce hFP hb0 hX2 hz0' hW hM hbW hX2W hWz
 go_enter Tryz.func105, Tryz.ntmps105
 go_upto_region 1 with fail
 rw [← hW0]
 clear hW0
 go_upto_region 2 with fail
 clear hmk x0 x1
 have x0 := cell_at HX2W.out 0 rfl
 have x1 := cell_at HX2W.out 1 rfl
 go_wp2_with fail
 go_loopw [6, 16] (fun tv i wr => ∃ (k : Nat) (m : List Nat) (th : List (AsD × Nat)), k ≤ n ∧ i = .int .i64 k ∧ th.length ≤ k ∧ Hid (FP = th ++ fldP ps has (cs.drop k) m) ∧ Hid (m.length = np) ∧ Hid (wr.heap[w.heap.size + 1]? = some (.cells (m.map natV).toArray 3 (0, 0))) ∧ Hid (OwnCa wr (w.heap.size + 2) tv th) ∧ W.grownBy wr (some (w.heap.size + 1))) (fun _ i _ => n - (intOf i).toNat)
 case atStart => exact ⟨0, List.replicate np 0, [], Nat.zero_le _, rfl, by simp, Lib.hid (by rw [← HFP.out]; simp), Lib.hid (by simp), HM, Lib.hid (by simpa [OwnCa] using World.ownsRow_nil _ _ _ _), gb_refl _ _⟩
 case round =>
  clear HM x0 x1; obtain ⟨k, m, th, hk, rfl, hth, HF, Hml, HMr, Hown, hg⟩ := hrel; have hbwr := below_gbG HbW.out hg (by omega)
  have hX2r := heap_gbG HX2W.out hg (by omega)
  have hzr : w.heap.size + 2 ≤ W.heap.size := by have := HWz.out; omega
  by_cases hlt : k < n
  ·obtain ⟨c, hc⟩ : ∃ c, cs[k]? = some c := ⟨_, List.getElem?_eq_getElem (by rw [Hn.out]; exact hlt)⟩
   have hcl := Hl.out c (List.mem_of_getElem? hc); rw [Hnp.out] at hcl
   obtain ⟨y, hy⟩ : ∃ y, ps[c.2]? = some y := ⟨_, List.getElem?_eq_getElem (by rw [Hnp.out]; exact hcl)⟩
   obtain ⟨mp, hmp⟩ : ∃ z, m[c.2]? = some z := ⟨_, List.getElem?_eq_getElem (by rw [Hml.out]; exact hcl)⟩
   have hym := (Hps.out y (List.mem_of_getElem? hy)).2; rcases HPat.out with ⟨_, h⟩ | ⟨pg, po, pcap, e, _, hpg, _, hpcell⟩
   ·rw [h] at hy; simp at hy
   simp only [Value.slice.injEq] at e
   obtain ⟨rfl, -, rfl⟩ := e; rcases HCat.out with ⟨_, h⟩ | ⟨g, off, cap, e, _, hgl, _, hcell⟩
   ·rw [h] at hc; simp at hc
   simp only [Value.slice.injEq] at e
   obtain ⟨rfl, -, rfl⟩ := e; obtain ⟨q0, q1, q2, q3⟩ := hcell k c hc; have p0 := below_cell hbwr q0; have p1 := below_cell hbwr q1; have p2 := below_cell hbwr q2; have p3 := below_cell hbwr q3; have r1 := below_cell hbwr (hpcell c.2 y hy).2; have hMc := nat_cell HMr.out hmp; have hdrop : cs.drop k = c :: cs.drop (k + 1) := by rw [List.drop_eq_getElem_cons (by rw [Hn.out]; exact hlt)]; congr 1; rw [List.getElem?_eq_getElem (by rw [Hn.out]; exact hlt)] at hc; exact Option.some.inj hc
   have Hst := Lib.hid (show FP = th ++ (if decide (((mp : Nat) : Int) < y.many) && has c.1.player then c :: fldP ps has (cs.drop (k + 1)) (m.set c.2 (mp + 1)) else fldP ps has (cs.drop (k + 1)) m) by
    rw [HF.out, hdrop, fldP, hmp]; unfold manyAt; rw [hy]; rfl)
   clear HF hc hy hcell hpcell hdrop q0 q1 q2 q3; go_upto_region 6 with fail
   obtain ⟨wA, hwA⟩ : ∃ wA, wA = wr.alloc (.cells #[.string c.1.player, .string c.1.pos, .int .i64 c.1.value, .int .i64 ((c.2 : Nat) : Int)] 146) := ⟨_, rfl⟩
   obtain ⟨X8, hX8⟩ : ∃ X8, X8 = wr.heap.size := ⟨_, rfl⟩
   have hbA : Below wr.heap.size wr wA := by rw [hwA]; exact below_alloc wr _
   have hx8 : wA.heap[X8]? = some (.cells #[.string c.1.player, .string c.1.pos, .int .i64 c.1.value, .int .i64 ((c.2 : Nat) : Int)] 146 (0, 0)) := by rw [hwA, hX8]; exact heap_alloc_new wr _
   rw [← hwA, ← hX8]; have hbwA := below_step hbwr hbA; have hgA := gb_trans hg (gb_below hbA (some (w.heap.size + 1))); have HOA := Lib.hid (own_belowG Hown.out hbA); have HMA := Lib.hid (cells_later HMr.out hbA); have hX2A := cells_later hX2r hbA; have v0 := cell_at hX2A 0 rfl; have v1 := cell_at hx8 0 rfl; have v2 := cell_at hx8 3 rfl; have v3 := below_cell hbA hMc; have v4 := below_cell hbA r1; have hX8w : w.heap.size + 2 ≤ X8 := by rw [hX8]; exact Nat.le_trans hzr hg.size
   have HS := Lib.hid (show ∀ w', Below wA.heap.size wA w' → (Below wA.heap.size wA w' ∧ w'.cell? ⟨w.heap.size, 0, none⟩ = some (.slice (some ⟨pg, po, none⟩) np pc) ∧ w'.cell? ⟨X8, 0, none⟩ = some (.string c.1.player) ∧ w'.cell? ⟨X8, 3, none⟩ = some (.int .i64 ((c.2 : Nat) : Int)) ∧ w'.cell? ⟨w.heap.size + 1, c.2, none⟩ = some (.int .i64 ((mp : Nat) : Int)) ∧ w'.cell? ⟨pg, po + c.2 * 2 + 1, none⟩ = some (.int .i64 y.many)) from fun w' hb => ⟨hb, below_cell hb v0, below_cell hb v1, below_cell hb v2, below_cell hb v3, below_cell hb v4⟩)
   have hbd := (Below.refl wA.heap.size wA).drew; have Hx8 := Lib.hid hx8; have hmpn : ((c.2 : Nat) : Int) < (np : Int) := by omega
   clear hwA hX8 hx8 hX2A hX2r v0 v1 v2 v3 v4 p0 p1 p2 p3 r1 hMc HMr Hown hg hbA hbwr; by_cases hlm : ((mp : Nat) : Int) < y.many
   ·have e1 : decide (((mp : Nat) : Int) < y.many) = true := decide_eq_true hlm
    cases hh : has c.1.player
    ·have Hh := Lib.hid hh
     have HF2 := Lib.hid (show FP = th ++ fldP ps has (cs.drop (k + 1)) m by rw [Hst.out, hh, Bool.and_false]; simp)
     clear hh Hst; show Code.wp _ (Code.region 6 o105_6 true) _ _ _
     refine region_start 20 (fun w' => Below wA.heap.size wA w' ∧ w'.cell? ⟨w.heap.size, 0, none⟩ = some (.slice (some ⟨pg, po, none⟩) np pc) ∧ w'.cell? ⟨X8, 0, none⟩ = some (.string c.1.player) ∧ w'.cell? ⟨X8, 3, none⟩ = some (.int .i64 ((c.2 : Nat) : Int)) ∧ w'.cell? ⟨w.heap.size + 1, c.2, none⟩ = some (.int .i64 ((mp : Nat) : Int)) ∧ w'.cell? ⟨pg, po + c.2 * 2 + 1, none⟩ = some (.int .i64 y.many)) (by kernel_rfl) rfl ?_ (fun hHeld => ?_)
     ·(exact HS.out _ (by first | exact hbd | exact hHeld.1 | exact below_step hHeld.1 (by assumption)))
     refine take_to 0 20 (bQ 20 1) (v := ?_) o105_6_0 rfl o105_6_ns (by kernel_rfl) (by kernel_rfl) (fun _ _ _ h => h) (by rfl) ?y0a (by assumption) ?_
     case y0a => intro w h; (try dsimp only at h); go_simp; try with_reducible rfl
     simp only [sE0, sE1]; refine take_to 1 21 (bQ 20 3) (v := ?_) o105_6_1 rfl o105_6_ns (by kernel_rfl) (by kernel_rfl) (fun _ _ _ h => h) (by rfl) ?y1a (by assumption) ?_
     case y1a => intro w h; (try dsimp only at h); go_simp; try with_reducible rfl
     simp only [sE0, sE1]; refine take_to 2 22 (bQ 20 7) (v := ?_) o105_6_2 rfl o105_6_ns (by kernel_rfl) (by kernel_rfl) (fun _ _ _ h => h) (by rfl) ?y2a (by assumption) ?_
     case y2a => intro w h; (try dsimp only at h); go_simp; try with_reducible rfl
     simp only [sE0, sE1]; refine take_to 3 23 (bQ 20 15) (v := ?_) o105_6_3 rfl o105_6_ns (by kernel_rfl) (by kernel_rfl) (fun _ _ _ h => h) (by rfl) ?y3a (by assumption) ?_
     case y3a => intro w h; (try dsimp only at h); go_simp; try with_reducible rfl
     simp only [sE0, sE1]; refine take_to 4 24 (bQ 20 31) (v := ?_) o105_6_4 rfl o105_6_ns (by kernel_rfl) (by kernel_rfl) (fun _ _ _ h => h) (by rfl) ?y4a (by assumption) ?_
     case y4a => intro w h; (try dsimp only at h); go_simp; try with_reducible rfl
     simp only [sE0, sE1]; refine take_to 5 25 (bQ 20 63) (v := ?_) o105_6_5 rfl o105_6_ns (by kernel_rfl) (by kernel_rfl) (fun _ _ _ h => h) (by rfl) ?y5a (by assumption) ?_
     case y5a => intro w h; (try dsimp only at h); go_simp; try with_reducible rfl
     simp only [sE0, sE1]; refine take_to 6 26 (bQ 20 127) (v := ?_) o105_6_6 rfl o105_6_ns (by kernel_rfl) (by kernel_rfl) (fun _ _ _ h => h) (by rfl) ?y6a (by assumption) ?_
     case y6a => intro w h; (try dsimp only at h); go_simp; try with_reducible rfl
     simp only [sE0, sE1]; refine take_to 7 27 (bQ 20 255) (v := ?_) o105_6_7 rfl o105_6_ns (by kernel_rfl) (by kernel_rfl) (fun _ _ _ h => h) (by rfl) ?y7a (by assumption) ?_
     case y7a => intro w h; (try dsimp only at h); go_simp; try with_reducible rfl
     simp only [sE0, sE1]; refine take_to 8 28 (bQ 20 511) (v := ?_) o105_6_8 rfl o105_6_ns (by kernel_rfl) (by kernel_rfl) (fun _ _ _ h => h) (by rfl) ?y8a (by assumption) ?_
     case y8a => intro w h; (try dsimp only at h); go_simp; try with_reducible rfl
     simp only [sE0, sE1]; refine take_to 9 29 (bQ 20 1023) (v := ?_) o105_6_9 rfl o105_6_ns (by kernel_rfl) (by kernel_rfl) (fun _ _ _ h => h) (by rfl) ?y9a (by assumption) ?_
     case y9a => intro w h; (try dsimp only at h); go_simp; try with_reducible rfl
     simp only [sE0, sE1]; refine take_to 10 30 (bQ 20 2047) (v := ?_) o105_6_10 rfl o105_6_ns (by kernel_rfl) (by kernel_rfl) (fun _ _ _ h => h) (by rfl) ?y10a (by assumption) ?_
     case y10a => intro w h; (try dsimp only at h); go_simp; try with_reducible rfl
     simp only [sE0, sE1]; refine take_to 11 31 (bQ 20 4095) (v := ?_) o105_6_11 rfl o105_6_ns (by kernel_rfl) (by kernel_rfl) (fun _ _ _ h => h) (by rfl) ?y11a (by assumption) ?_
     case y11a => intro w h; (try dsimp only at h); go_simp; try with_reducible rfl
     simp only [sE0, sE1]; refine take_to 12 32 (bQ 20 8191) (v := ?_) o105_6_12 rfl o105_6_ns (by kernel_rfl) (by kernel_rfl) (fun _ _ _ h => h) (by rfl) ?y12a (by assumption) ?_
     case y12a => intro w h; (try dsimp only at h); go_simp; try with_reducible rfl
     simp only [sE0, sE1]; refine take_to 13 33 (bQ 20 16383) (v := ?_) o105_6_13 rfl o105_6_ns (by kernel_rfl) (by kernel_rfl) (fun _ _ _ h => h) (by rfl) ?y13a (by assumption) ?_
     case y13a => intro w h; (try dsimp only at h); go_simp; try with_reducible rfl
     simp only [sE0, sE1]; refine take_to 14 34 (bQ 20 32767) (v := ?_) o105_6_14 rfl o105_6_ns (by kernel_rfl) (by kernel_rfl) (fun _ _ _ h => h) (by rfl) ?y14a (by assumption) ?_
     case y14a => intro w h; (try dsimp only at h); go_simp; try with_reducible rfl
     simp only [sE0, sE1]; refine take_to 15 35 (bQ 20 65535) (v := ?_) o105_6_15 rfl o105_6_ns (by kernel_rfl) (by kernel_rfl) (fun _ _ _ h => h) (by rfl) ?y15a (by assumption) ?_
     case y15a => intro w h; (try dsimp only at h); go_simp; try with_reducible rfl
     simp only [sE0, sE1]; refine take_to 16 36 (bQ 20 131071) (v := ?_) o105_6_16 rfl o105_6_ns (by kernel_rfl) (by kernel_rfl) (fun _ _ _ h => h) (by rfl) ?y16a (by assumption) ?_
     case y16a => intro w h; (try dsimp only at h); go_simp; try with_reducible rfl
     simp only [sE0, sE1]; refine take_to 17 37 (bQ 20 262143) (v := ?_) o105_6_17 rfl o105_6_ns (by kernel_rfl) (by kernel_rfl) (fun _ _ _ h => h) (by rfl) ?y17a (by assumption) ?_
     case y17a => intro w h; (try dsimp only at h); go_simp; try with_reducible rfl
     simp only [sE0, sE1]; refine run_to 18 (bQ 20 524287) o105_6_18 (by kernel_rfl) (by kernel_rfl) (by rfl) (fun K hK => ?_)
     go_simp; refine (Hp.out _ c.1.player (below_step hbwA hHeld.1)).mono ?_; rintro e w' ⟨rfl, hbh⟩; rw [Hh.out]; go_wp2_with fail
     refine hK.out _ _ ?_ (fun hHeld => ?_)
     ·(exact HS.out _ (by first | exact hbd | exact hHeld.1 | exact below_step hHeld.1 (by assumption)))
     clear hK K; try simp only [Act.put, sEt, sE0, sE1]
     refine take_to 19 39 (bQ 20 1048575) (v := ?_) o105_6_19 rfl o105_6_ns (by kernel_rfl) (by kernel_rfl) (fun _ _ _ h => h) (by rfl) ?y19a (by assumption) ?_
     case y19a => intro w h; (try dsimp only at h); go_simp; try with_reducible rfl
     simp only [sE0, sE1]; refine wpAnyH_done (by kernel_rfl) ?_ _
     have hbe := hHeld.1; have HM2 := Lib.hid (cells_later HMA.out hbe); have HO2 := Lib.hid (own_belowG HOA.out hbe); have hg2 := gb_trans hgA (gb_below hbe (some (w.heap.size + 1))); clear hHeld HS hbd; go_wp2_with fail
     go_roundw
     case rel => exact ⟨k + 1, m, th, by omega, by go_num, by omega, HF2, Hml, HM2, HO2, hg2⟩
     case measure => simp [intOf]; omega
    ·have Hh := Lib.hid hh
     have HF2 := Lib.hid (show FP = (th ++ [c]) ++ fldP ps has (cs.drop (k + 1)) (m.set c.2 (mp + 1)) by rw [Hst.out, hh, e1]; simp)
     clear hh Hst; show Code.wp _ (Code.region 6 o105_6 true) _ _ _
     refine region_start 20 (fun w' => Below wA.heap.size wA w' ∧ w'.cell? ⟨w.heap.size, 0, none⟩ = some (.slice (some ⟨pg, po, none⟩) np pc) ∧ w'.cell? ⟨X8, 0, none⟩ = some (.string c.1.player) ∧ w'.cell? ⟨X8, 3, none⟩ = some (.int .i64 ((c.2 : Nat) : Int)) ∧ w'.cell? ⟨w.heap.size + 1, c.2, none⟩ = some (.int .i64 ((mp : Nat) : Int)) ∧ w'.cell? ⟨pg, po + c.2 * 2 + 1, none⟩ = some (.int .i64 y.many)) (by kernel_rfl) rfl ?_ (fun hHeld => ?_)
     ·(exact HS.out _ (by first | exact hbd | exact hHeld.1 | exact below_step hHeld.1 (by assumption)))
     refine take_to 0 20 (bQ 20 1) (v := ?_) o105_6_0 rfl o105_6_ns (by kernel_rfl) (by kernel_rfl) (fun _ _ _ h => h) (by rfl) ?y0b (by assumption) ?_
     case y0b => intro w h; (try dsimp only at h); go_simp; try with_reducible rfl
     simp only [sE0, sE1]; refine take_to 1 21 (bQ 20 3) (v := ?_) o105_6_1 rfl o105_6_ns (by kernel_rfl) (by kernel_rfl) (fun _ _ _ h => h) (by rfl) ?y1b (by assumption) ?_
     case y1b => intro w h; (try dsimp only at h); go_simp; try with_reducible rfl
     simp only [sE0, sE1]; refine take_to 2 22 (bQ 20 7) (v := ?_) o105_6_2 rfl o105_6_ns (by kernel_rfl) (by kernel_rfl) (fun _ _ _ h => h) (by rfl) ?y2b (by assumption) ?_
     case y2b => intro w h; (try dsimp only at h); go_simp; try with_reducible rfl
     simp only [sE0, sE1]; refine take_to 3 23 (bQ 20 15) (v := ?_) o105_6_3 rfl o105_6_ns (by kernel_rfl) (by kernel_rfl) (fun _ _ _ h => h) (by rfl) ?y3b (by assumption) ?_
     case y3b => intro w h; (try dsimp only at h); go_simp; try with_reducible rfl
     simp only [sE0, sE1]; refine take_to 4 24 (bQ 20 31) (v := ?_) o105_6_4 rfl o105_6_ns (by kernel_rfl) (by kernel_rfl) (fun _ _ _ h => h) (by rfl) ?y4b (by assumption) ?_
     case y4b => intro w h; (try dsimp only at h); go_simp; try with_reducible rfl
     simp only [sE0, sE1]; refine take_to 5 25 (bQ 20 63) (v := ?_) o105_6_5 rfl o105_6_ns (by kernel_rfl) (by kernel_rfl) (fun _ _ _ h => h) (by rfl) ?y5b (by assumption) ?_
     case y5b => intro w h; (try dsimp only at h); go_simp; try with_reducible rfl
     simp only [sE0, sE1]; refine take_to 6 26 (bQ 20 127) (v := ?_) o105_6_6 rfl o105_6_ns (by kernel_rfl) (by kernel_rfl) (fun _ _ _ h => h) (by rfl) ?y6b (by assumption) ?_
     case y6b => intro w h; (try dsimp only at h); go_simp; try with_reducible rfl
     simp only [sE0, sE1]; refine take_to 7 27 (bQ 20 255) (v := ?_) o105_6_7 rfl o105_6_ns (by kernel_rfl) (by kernel_rfl) (fun _ _ _ h => h) (by rfl) ?y7b (by assumption) ?_
     case y7b => intro w h; (try dsimp only at h); go_simp; try with_reducible rfl
     simp only [sE0, sE1]; refine take_to 8 28 (bQ 20 511) (v := ?_) o105_6_8 rfl o105_6_ns (by kernel_rfl) (by kernel_rfl) (fun _ _ _ h => h) (by rfl) ?y8b (by assumption) ?_
     case y8b => intro w h; (try dsimp only at h); go_simp; try with_reducible rfl
     simp only [sE0, sE1]; refine take_to 9 29 (bQ 20 1023) (v := ?_) o105_6_9 rfl o105_6_ns (by kernel_rfl) (by kernel_rfl) (fun _ _ _ h => h) (by rfl) ?y9b (by assumption) ?_
     case y9b => intro w h; (try dsimp only at h); go_simp; try with_reducible rfl
     simp only [sE0, sE1]; refine take_to 10 30 (bQ 20 2047) (v := ?_) o105_6_10 rfl o105_6_ns (by kernel_rfl) (by kernel_rfl) (fun _ _ _ h => h) (by rfl) ?y10b (by assumption) ?_
     case y10b => intro w h; (try dsimp only at h); go_simp; try with_reducible rfl
     simp only [sE0, sE1]; refine take_to 11 31 (bQ 20 4095) (v := ?_) o105_6_11 rfl o105_6_ns (by kernel_rfl) (by kernel_rfl) (fun _ _ _ h => h) (by rfl) ?y11b (by assumption) ?_
     case y11b => intro w h; (try dsimp only at h); go_simp; try with_reducible rfl
     simp only [sE0, sE1]; refine take_to 12 32 (bQ 20 8191) (v := ?_) o105_6_12 rfl o105_6_ns (by kernel_rfl) (by kernel_rfl) (fun _ _ _ h => h) (by rfl) ?y12b (by assumption) ?_
     case y12b => intro w h; (try dsimp only at h); go_simp; try with_reducible rfl
     simp only [sE0, sE1]; refine take_to 13 33 (bQ 20 16383) (v := ?_) o105_6_13 rfl o105_6_ns (by kernel_rfl) (by kernel_rfl) (fun _ _ _ h => h) (by rfl) ?y13b (by assumption) ?_
     case y13b => intro w h; (try dsimp only at h); go_simp; try with_reducible rfl
     simp only [sE0, sE1]; refine take_to 14 34 (bQ 20 32767) (v := ?_) o105_6_14 rfl o105_6_ns (by kernel_rfl) (by kernel_rfl) (fun _ _ _ h => h) (by rfl) ?y14b (by assumption) ?_
     case y14b => intro w h; (try dsimp only at h); go_simp; try with_reducible rfl
     simp only [sE0, sE1]; refine take_to 15 35 (bQ 20 65535) (v := ?_) o105_6_15 rfl o105_6_ns (by kernel_rfl) (by kernel_rfl) (fun _ _ _ h => h) (by rfl) ?y15b (by assumption) ?_
     case y15b => intro w h; (try dsimp only at h); go_simp; try with_reducible rfl
     simp only [sE0, sE1]; refine take_to 16 36 (bQ 20 131071) (v := ?_) o105_6_16 rfl o105_6_ns (by kernel_rfl) (by kernel_rfl) (fun _ _ _ h => h) (by rfl) ?y16b (by assumption) ?_
     case y16b => intro w h; (try dsimp only at h); go_simp; try with_reducible rfl
     simp only [sE0, sE1]; refine take_to 17 37 (bQ 20 262143) (v := ?_) o105_6_17 rfl o105_6_ns (by kernel_rfl) (by kernel_rfl) (fun _ _ _ h => h) (by rfl) ?y17b (by assumption) ?_
     case y17b => intro w h; (try dsimp only at h); go_simp; try with_reducible rfl
     simp only [sE0, sE1]; refine run_to 18 (bQ 20 524287) o105_6_18 (by kernel_rfl) (by kernel_rfl) (by rfl) (fun K hK => ?_)
     go_simp; refine (Hp.out _ c.1.player (below_step hbwA hHeld.1)).mono ?_; rintro e w' ⟨rfl, hbh⟩; rw [Hh.out]; go_wp2_with fail
     refine hK.out _ _ ?_ (fun hHeld => ?_)
     ·(exact HS.out _ (by first | exact hbd | exact hHeld.1 | exact below_step hHeld.1 (by assumption)))
     clear hK K; try simp only [Act.put, sEt, sE0, sE1]
     refine take_to 19 39 (bQ 20 1048575) (v := ?_) o105_6_19 rfl o105_6_ns (by kernel_rfl) (by kernel_rfl) (fun _ _ _ h => h) (by rfl) ?y19b (by assumption) ?_
     case y19b => intro w h; (try dsimp only at h); go_simp; try with_reducible rfl
     simp only [sE0, sE1]; refine wpAnyH_done (by kernel_rfl) ?_ _
     have hbe := hHeld.1; have h8e := cells_later Hx8.out hbe; have hMe := cells_later HMA.out hbe; have HO2 := own_belowG HOA.out hbe; have hg2 := gb_trans hgA (gb_below hbe (some (w.heap.size + 1))); have hMc := hHeld.2.2.2.2.1; have hfz := fun o => frozen_ofG hMe o
     have hnv : Value.int .i64 (((mp : Nat) : Int) + 1) = natV (mp + 1) := by unfold natV; congr 1
     have Hnv := Lib.hid hnv; have hmb : ((mp : Nat) : Int) ≤ 4611686018427387904 := by omega
     have q3 := cell_at h8e 3 rfl

     clear hHeld HS hbd hnv; go_upto_region 8 with fail
     rw [Hnv.out]; obtain ⟨wS, hwS⟩ : ∃ wS, wS = w'.setCell ⟨w.heap.size + 1, c.2, none⟩ (natV (mp + 1)) := ⟨_, rfl⟩
     have hMS : wS.heap[w.heap.size + 1]? = some (.cells ((m.set c.2 (mp + 1)).map natV).toArray 3 (0, 0)) := by rw [hwS]; exact ints_put hMe
     have h8S : wS.heap[X8]? = some (.cells #[.string c.1.player, .string c.1.pos, .int .i64 c.1.value, .int .i64 ((c.2 : Nat) : Int)] 146 (0, 0)) := by rw [hwS]; simp [World.setCell, Array.getElem?_modify, h8e, show w.heap.size + 1 ≠ X8 by omega]
     have hOS : OwnCa wS (w.heap.size + 2) u6 th := by rw [hwS]; exact own_keepG HO2 (gb_setCell w' (w.heap.size + 1) c.2 (natV (mp + 1))) (by omega)
     have hgS : W.grownBy wS (some (w.heap.size + 1)) := by rw [hwS]; exact gb_trans hg2 (gb_setCell w' (w.heap.size + 1) c.2 (natV (mp + 1)))
     rw [← hwS]; obtain ⟨ta, tc, rfl⟩ := owns_shape hOS; have hMl' : (m.set c.2 (mp + 1)).length = np := by rw [List.length_set]; exact Hml.out
     generalize m.set c.2 (mp + 1) = m' at hMS HF2 hMl'
     have s0 := cell_at h8S 0 rfl; have s1 := cell_at h8S 1 rfl; have s2 := cell_at h8S 2 rfl; have s3 := cell_at h8S 3 rfl; have hMSh := Lib.hid hMS; have HgS := Lib.hid hgS; have hownB := World.ownsRow.alloc hOS (.cells #[.string c.1.player, .string c.1.pos, .int .i64 c.1.value, .int .i64 ((c.2 : Nat) : Int)] 146); have htk : th.length ≤ 1000 := by omega
     have hthn : th.length ≤ k := hth
     have hwz : w.heap.size + 2 ≤ wS.heap.size := Nat.le_trans hzr hgS.size
     clear hwS HO2 hg2 hMe h8e hMc hfz q3 hMS hgS hOS h8S; go_wp2_with (at_builtin; refine wpList_append_own _ rfl _ _ 140 rfl (w.heap.size + 2) 146 i0 (.agg #[.string ⟨#[]⟩, .string ⟨#[]⟩, .int .i64 0, .int .i64 0]) 4 48 Tryz.underlying140 hi hz0 hz1 hz2 rfl (by decide) _ _ _ rfl hownB ⟨_, 0, none⟩ 1 1 [.string c.1.player, .string c.1.pos, .int .i64 c.1.value, .int .i64 ((c.2 : Nat) : Int)] rfl rfl ?c1 ?c2 ?c3 ?c4 ?c5 ?_)
     case c1 => exact cells_newG wS [.string c.1.player, .string c.1.pos, .int .i64 c.1.value, .int .i64 ((c.2 : Nat) : Int)] _
     case c2 => simp [Value.oneCell']
     case c3 => unfold maxLen; omega
     case c4 => omega
     case c5 => simp; omega
     intro v' w5 hown5 hgrow _; obtain ⟨va, vc, rfl⟩ := owns_shape hown5; have hob := fun r hr => (own_block hownB r hr).1
     have hM5 : w5.heap[w.heap.size + 1]? = some (.cells (m'.map natV).toArray 3 (0, 0)) := (hgrow.block (w.heap.size + 1) (by simp; omega) (fun e => by have := hob (w.heap.size + 1) e.symm; omega)).trans (heap_alG hMSh.out _)
     have hg5 : W.grownBy w5 (some (w.heap.size + 1)) := gb_then (gb_trans HgS.out (gb_alloc _ (.cells #[.string c.1.player, .string c.1.pos, .int .i64 c.1.value, .int .i64 ((c.2 : Nat) : Int)] 146) _)) hgrow (fun r hr => by have := hob r hr; have := HWz.out; omega)
     have hown6 : OwnCa w5 (w.heap.size + 2) (.slice va (th.length + 1) vc) (th ++ [c]) := by
      unfold OwnCa; have e : ((th ++ [c]).map caRow).flatten = (th.map caRow).flatten ++ [.string c.1.player, .string c.1.pos, .int .i64 c.1.value, .int .i64 ((c.2 : Nat) : Int)] := by simp [caRow]
      rw [e, List.length_append, List.length_singleton]; exact hown5
     have hl6 : (th ++ [c]).length ≤ k + 1 := by rw [List.length_append, List.length_singleton]; omega
     have H6 := Lib.hid hown6; have Hg5 := Lib.hid hg5; have HM5 := Lib.hid hM5; clear hgrow hown5 hownB hob hown6 hg5 hM5 hMSh HgS s0 s1 s2 s3; go_wp2_with fail
     go_roundw
     case rel => exact ⟨k + 1, m', th ++ [c], by omega, by go_num, hl6, HF2, Lib.hid hMl', HM5, H6, Hg5⟩
     case measure => simp [intOf]; omega
   ·have e1 : decide (((mp : Nat) : Int) < y.many) = false := decide_eq_false hlm
    have HF2 := Lib.hid (show FP = th ++ fldP ps has (cs.drop (k + 1)) m by rw [Hst.out, e1]; simp)
    clear Hst; show Code.wp _ (Code.region 6 o105_6 true) _ _ _
    refine region_start 20 (fun w' => Below wA.heap.size wA w' ∧ w'.cell? ⟨w.heap.size, 0, none⟩ = some (.slice (some ⟨pg, po, none⟩) np pc) ∧ w'.cell? ⟨X8, 0, none⟩ = some (.string c.1.player) ∧ w'.cell? ⟨X8, 3, none⟩ = some (.int .i64 ((c.2 : Nat) : Int)) ∧ w'.cell? ⟨w.heap.size + 1, c.2, none⟩ = some (.int .i64 ((mp : Nat) : Int)) ∧ w'.cell? ⟨pg, po + c.2 * 2 + 1, none⟩ = some (.int .i64 y.many)) (by kernel_rfl) rfl ?_ (fun hHeld => ?_)
    ·(exact HS.out _ (by first | exact hbd | exact hHeld.1 | exact below_step hHeld.1 (by assumption)))
    refine take_to 0 20 (bQ 20 1) (v := ?_) o105_6_0 rfl o105_6_ns (by kernel_rfl) (by kernel_rfl) (fun _ _ _ h => h) (by rfl) ?y0c (by assumption) ?_
    case y0c => intro w h; (try dsimp only at h); go_simp; try with_reducible rfl
    simp only [sE0, sE1]; refine take_to 1 21 (bQ 20 3) (v := ?_) o105_6_1 rfl o105_6_ns (by kernel_rfl) (by kernel_rfl) (fun _ _ _ h => h) (by rfl) ?y1c (by assumption) ?_
    case y1c => intro w h; (try dsimp only at h); go_simp; try with_reducible rfl
    simp only [sE0, sE1]; refine take_to 2 22 (bQ 20 7) (v := ?_) o105_6_2 rfl o105_6_ns (by kernel_rfl) (by kernel_rfl) (fun _ _ _ h => h) (by rfl) ?y2c (by assumption) ?_
    case y2c => intro w h; (try dsimp only at h); go_simp; try with_reducible rfl
    simp only [sE0, sE1]; refine take_to 3 23 (bQ 20 15) (v := ?_) o105_6_3 rfl o105_6_ns (by kernel_rfl) (by kernel_rfl) (fun _ _ _ h => h) (by rfl) ?y3c (by assumption) ?_
    case y3c => intro w h; (try dsimp only at h); go_simp; try with_reducible rfl
    simp only [sE0, sE1]; refine take_to 4 24 (bQ 20 31) (v := ?_) o105_6_4 rfl o105_6_ns (by kernel_rfl) (by kernel_rfl) (fun _ _ _ h => h) (by rfl) ?y4c (by assumption) ?_
    case y4c => intro w h; (try dsimp only at h); go_simp; try with_reducible rfl
    simp only [sE0, sE1]; refine take_to 5 25 (bQ 20 63) (v := ?_) o105_6_5 rfl o105_6_ns (by kernel_rfl) (by kernel_rfl) (fun _ _ _ h => h) (by rfl) ?y5c (by assumption) ?_
    case y5c => intro w h; (try dsimp only at h); go_simp; try with_reducible rfl
    simp only [sE0, sE1]; refine take_to 6 26 (bQ 20 127) (v := ?_) o105_6_6 rfl o105_6_ns (by kernel_rfl) (by kernel_rfl) (fun _ _ _ h => h) (by rfl) ?y6c (by assumption) ?_
    case y6c => intro w h; (try dsimp only at h); go_simp; try with_reducible rfl
    simp only [sE0, sE1]; refine take_to 7 27 (bQ 20 255) (v := ?_) o105_6_7 rfl o105_6_ns (by kernel_rfl) (by kernel_rfl) (fun _ _ _ h => h) (by rfl) ?y7c (by assumption) ?_
    case y7c => intro w h; (try dsimp only at h); go_simp; try with_reducible rfl
    simp only [sE0, sE1]; refine take_to 8 28 (bQ 20 511) (v := ?_) o105_6_8 rfl o105_6_ns (by kernel_rfl) (by kernel_rfl) (fun _ _ _ h => h) (by rfl) ?y8c (by assumption) ?_
    case y8c => intro w h; (try dsimp only at h); go_simp; try with_reducible rfl
    simp only [sE0, sE1]; refine take_to 9 29 (bQ 20 1023) (v := ?_) o105_6_9 rfl o105_6_ns (by kernel_rfl) (by kernel_rfl) (fun _ _ _ h => h) (by rfl) ?y9c (by assumption) ?_
    case y9c => intro w h; (try dsimp only at h); go_simp; try with_reducible rfl
    simp only [sE0, sE1]; refine take_to 10 30 (bQ 20 2047) (v := ?_) o105_6_10 rfl o105_6_ns (by kernel_rfl) (by kernel_rfl) (fun _ _ _ h => h) (by rfl) ?y10c (by assumption) ?_
    case y10c => intro w h; (try dsimp only at h); go_simp; try with_reducible rfl
    simp only [sE0, sE1]; refine take_to 11 31 (bQ 20 4095) (v := ?_) o105_6_11 rfl o105_6_ns (by kernel_rfl) (by kernel_rfl) (fun _ _ _ h => h) (by rfl) ?y11c (by assumption) ?_
    case y11c => intro w h; (try dsimp only at h); go_simp; try with_reducible rfl
    simp only [sE0, sE1]; refine take_to 12 32 (bQ 20 8191) (v := ?_) o105_6_12 rfl o105_6_ns (by kernel_rfl) (by kernel_rfl) (fun _ _ _ h => h) (by rfl) ?y12c (by assumption) ?_
    case y12c => intro w h; (try dsimp only at h); go_simp; try with_reducible rfl
    simp only [sE0, sE1]; refine take_to 13 33 (bQ 20 16383) (v := ?_) o105_6_13 rfl o105_6_ns (by kernel_rfl) (by kernel_rfl) (fun _ _ _ h => h) (by rfl) ?y13c (by assumption) ?_
    case y13c => intro w h; (try dsimp only at h); go_simp; try with_reducible rfl
    simp only [sE0, sE1]; refine skip_to 14 34 (bQ 20 32767) o105_6_14 rfl o105_6_ns (by kernel_rfl) (by kernel_rfl) (fun _ _ _ h => h) (by rfl) (by assumption) ?_
    simp only [sE0, sE1]; refine skip_to 15 35 (bQ 20 65535) o105_6_15 rfl o105_6_ns (by kernel_rfl) (by kernel_rfl) (fun _ _ _ h => h) (by rfl) (by assumption) ?_
    simp only [sE0, sE1]; refine skip_to 16 36 (bQ 20 131071) o105_6_16 rfl o105_6_ns (by kernel_rfl) (by kernel_rfl) (fun _ _ _ h => h) (by rfl) (by assumption) ?_
    simp only [sE0, sE1]; refine skip_to 17 37 (bQ 20 262143) o105_6_17 rfl o105_6_ns (by kernel_rfl) (by kernel_rfl) (fun _ _ _ h => h) (by rfl) (by assumption) ?_
    simp only [sE0, sE1]; refine skip_to 18 38 (bQ 20 524287) o105_6_18 rfl o105_6_ns (by kernel_rfl) (by kernel_rfl) (fun _ _ _ h => h) (by rfl) (by assumption) ?_
    simp only [sE0, sE1]; refine take_to 19 39 (bQ 20 1048575) (v := ?_) o105_6_19 rfl o105_6_ns (by kernel_rfl) (by kernel_rfl) (fun _ _ _ h => h) (by rfl) ?y19c (by assumption) ?_
    case y19c => intro w h; (try dsimp only at h); go_simp; try with_reducible rfl
    simp only [sE0, sE1]; refine wpAnyH_done (by kernel_rfl) ?_ _
    have hbe := hHeld.1; have HM2 := Lib.hid (cells_later HMA.out hbe); have HO2 := Lib.hid (own_belowG HOA.out hbe); have hg2 := gb_trans hgA (gb_below hbe (some (w.heap.size + 1))); clear hHeld HS hbd; go_wp2_with fail
    go_roundw
    case rel => exact ⟨k + 1, m, th, by omega, by go_num, by omega, HF2, Hml, HM2, HO2, hg2⟩
    case measure => simp [intOf]; omega
  ·obtain rfl : k = n := by omega
   have HE : Hid (FP = th) := Lib.hid (by
    rw [HF.out, List.drop_eq_nil_of_le (by rw [Hn.out]; exact Nat.le_refl _)]
    simp [fldP])
   have Hown2 := Lib.hid (show OwnCa wr w.heap.size _ th from own_lowerG (base := w.heap.size + 2) Hown.out (by omega))
   have Hbwr := Lib.hid hbwr; clear HF Hml HMr Hown hg hX2r hbwr; go_wp2_with fail
   go_ret
   exact ⟨_, by rw [HE.out]; exact Hown2.out, rfl, Hbwr.out⟩
end Go.Proofs.YtddnnjblpgfjeaaGreatDoor
namespace Go.Proofs.YtddnnjblpgfjeaaGreatDoor
open Go.RowKit Go.Sort

def finV {m : Nat} (i : Fin (m + 1)) : Value := .int .i64 ((i.val : Nat) : Int)
def FinsAt {m : Nat} (w : World) (g : Nat) (ks : List (Fin (m + 1))) : Prop := w.heap[g]? = some (.cells (ks.map finV).toArray 3 (0, 0))
theorem FinsAt.lt {m : Nat} {w : World} {g : Nat} {ks : List (Fin (m + 1))} (h : FinsAt w g ks) : g < w.heap.size := lt_of_heap h
theorem FinsAt.below {m : Nat} {w w' : World} {g : Nat} {ks : List (Fin (m + 1))} (h : FinsAt w g ks) (hb : Below w.heap.size w w') : FinsAt w' g ks := cells_later h hb
theorem FinsAt.holds {m : Nat} {w : World} {g : Nat} {ks : List (Fin (m + 1))} (h : FinsAt w g ks) : Holds finV w g 0 ks.toArray := by
 intro j hj
 have hj' : j < ks.length := by simpa using hj
 refine ⟨?_, frozen_ofG h _⟩
 rw [Nat.zero_add, cell_of_row w g j _ 3 (0, 0) h]
 simp [hj']
theorem FinsAt.put {m : Nat} {w : World} {g q : Nat} {ks : List (Fin (m + 1))} {d : Array (Fin (m + 1))} (h : FinsAt w g ks) (hd : d.size = ks.length) : FinsAt ((putRow finV w g 0 d).drewN q) g d.toList := by
 unfold FinsAt at h ⊢
 show (putRow finV w g 0 d).heap[g]? = _
 unfold putRow mapBlock
 simp only [Array.getElem?_modify, if_true, h, Option.map_some, onCells]
 congr 2
 apply Array.ext_getElem?
 intro k
 unfold putCells
 rw [Array.getElem?_mapIdx]
 by_cases hk : k < d.size
 ·have hk' : k < ks.length := by omega
  simp [hk, hk']
 ·have hk' : ¬ k < ks.length := by omega
  simp [hk, hk']
theorem gb_putRow {m : Nat} (w : World) (g q : Nat) (d : Array (Fin (m + 1))) : w.grownBy ((putRow finV w g 0 d).drewN q) (some g) := by
 refine ⟨rfl, rfl, rfl, by simp, fun k hk hne => ?_⟩
 show (putRow finV w g 0 d).heap[k]? = _
 unfold putRow mapBlock
 simp only [Array.getElem?_modify]
 rw [if_neg (fun e => hne (by rw [e]))]
def SortedIn {m : Nat} (cf : Fin (m + 1) → Fin (m + 1) → Int) (g : Nat) (ks : List (Fin (m + 1))) (w : World) (e : Ending) (w' : World) : Prop := e = .returned (.tuple #[]) ∧ FinsAt w' g (insL cf ks) ∧ w.grownBy w' (some g)
theorem gb_sortWorld {m : Nat} (w : World) (g n : Nat) (d : Array (Fin (m + 1))) (os : Array Obj) : w.grownBy (sortWorld finV w g 0 n d os) (some g) := by
 refine ⟨rfl, rfl, rfl, ?_, fun k hk hne => ?_⟩
 ·unfold sortWorld
  simp [grow, ahead]
 ·unfold sortWorld putRow mapBlock
  rw [heap_grow_old _ _ (by simpa using hk)]
  simp only [ahead, Array.getElem?_modify]; rw [if_neg (fun e => hne (by rw [e]))]
  rfl
set_option maxRecDepth 100000 in
set_option maxHeartbeats 2000000 in
theorem insIn_calls {m : Nat} (cf : Fin (m + 1) → Fin (m + 1) → Int) (G : Nat) (caps : Array Value) (g cap : Nat) (ks : List (Fin (m + 1))) (w : World) (hv : FinsAt w g ks) (hn : ks.length ≤ 1000000) (eg : ∀ args w, (callFunc G args).run Tryz.prog w = .ok (.enter G args) w)
  (hG : ∀ (W : World) (x y : Fin (m + 1)), w.grownBy W (some g) → Calls Tryz.prog G (#[finV x, finV y] ++ caps) W fun e w' => e = .returned (.int .i64 (cf x y)) ∧ ∃ q, w' = W.drewN q) :
  Calls Tryz.prog 182 #[.slice (some ⟨g, 0, none⟩) ks.length cap, .int .i64 0, .int .i64 (ks.length : Int), .func (.func G) #[] caps] w (SortedIn cf g ks w) := by
 have hcmp : CmpReads Tryz.prog G caps finV cf g 0 ks.toArray.size w := fun n os dk hdk x y => hG _ x y (gb_sortWorld _ _ _ _ _)
 have C := Tryz.insertionSortCmpFunc_one finV (fun _ => rfl) cf G caps g 0 cap 0 ks.length ks.toArray w eg hcmp hv.holds (Nat.zero_le _) (by simp) (by simp; omega)
 rw [List.size_toArray] at C
 refine C.mono ?_
 rintro e w' ⟨rfl, q, rfl⟩
 have hsz : (Sort.insertionSort (ltC cf) ks.toArray 0 ks.length).size = ks.length := by
  have := insL_len cf ks; unfold insL at this; simpa using this
 exact ⟨rfl, hv.put hsz, gb_putRow _ _ _ _⟩
set_option maxRecDepth 100000 in
set_option maxHeartbeats 2000000 in
theorem stableIn_calls {m : Nat} (cf : Fin (m + 1) → Fin (m + 1) → Int) (G : Nat) (caps : Array Value) (g cap : Nat) (ks : List (Fin (m + 1))) (w : World) (hv : FinsAt w g ks) (hn : ks.length ≤ 19) (eg : ∀ args w, (callFunc G args).run Tryz.prog w = .ok (.enter G args) w)
  (hG : ∀ (W : World) (x y : Fin (m + 1)), w.grownBy W (some g) → Calls Tryz.prog G (#[finV x, finV y] ++ caps) W fun e w' => e = .returned (.int .i64 (cf x y)) ∧ ∃ q, w' = W.drewN q) :
  Calls Tryz.prog 145 #[.slice (some ⟨g, 0, none⟩) ks.length cap, .int .i64 (ks.length : Int), .func (.func G) #[] caps] w (SortedIn cf g ks w) := by
 have C := Lib.hid (insIn_calls cf G caps g cap ks w hv (by omega) eg hG)
 unfold SortedIn at C ⊢
 generalize insL cf ks = ys at C ⊢
 clear hv hG eg
 generalize ks.length = n at hn C ⊢
 have e1 : decide (20 ≤ n) = false := by simp; omega
 have e2 : decide (20 < n) = false := by simp; omega
 go_enter Tryz.func145, Tryz.ntmps145
 go_wp2_with fail
 refine wp_loop_rounds 1 ?_
 rw [rounds_succ]
 go_wp2_with fail
 refine C.out.mono ?_
 rintro e w' ⟨rfl, h1, h2⟩
 have H := Lib.hid (And.intro h1 h2)
 clear h1 h2
 go_wp2_with fail
 refine wp_loop_rounds 1 ?_
 rw [rounds_succ]
 go_wp2_with fail
 go_end0
 exact ⟨rfl, H.out.1, H.out.2⟩
set_option maxRecDepth 100000 in
set_option maxHeartbeats 2000000 in
theorem sortStableIn_calls {m : Nat} (cf : Fin (m + 1) → Fin (m + 1) → Int) (G : Nat) (caps : Array Value) (g cap : Nat) (ks : List (Fin (m + 1))) (w : World) (hv : FinsAt w g ks) (hn : ks.length ≤ 19) (eg : ∀ args w, (callFunc G args).run Tryz.prog w = .ok (.enter G args) w)
  (hG : ∀ (W : World) (x y : Fin (m + 1)), w.grownBy W (some g) → Calls Tryz.prog G (#[finV x, finV y] ++ caps) W fun e w' => e = .returned (.int .i64 (cf x y)) ∧ ∃ q, w' = W.drewN q) :
  Calls Tryz.prog 98 #[.slice (some ⟨g, 0, none⟩) ks.length cap, .func (.func G) #[] caps] w (SortedIn cf g ks w) := by
 have C := Lib.hid (stableIn_calls cf G caps g cap ks w hv hn eg hG)
 unfold SortedIn at C ⊢
 generalize insL cf ks = ys at C ⊢
 clear hv hG eg
 generalize ks.length = n at hn C ⊢
 go_enter Tryz.func98, Tryz.ntmps98
 go_wp2_with fail
 refine C.out.mono ?_
 rintro e w' ⟨rfl, h1, h2⟩
 have H := Lib.hid (And.intro h1 h2)
 clear h1 h2
 go_wp2_with fail
 go_end0
 exact ⟨rfl, H.out.1, H.out.2⟩
end Go.Proofs.YtddnnjblpgfjeaaGreatDoor
