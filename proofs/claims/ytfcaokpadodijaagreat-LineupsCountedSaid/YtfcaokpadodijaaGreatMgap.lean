/- The one example. -/
import Derived.Test.YtfcaokpadodijaaGreatMgao
import Derived.Test.YtfcaokpadodijaaGreatMgal
import Derived.Deep.CutRange
import Derived.Test.YtfcaokpadodijaaGreatMgan
import Derived.Test.YtfcaokpadodijaaGreatMgad
import Derived.Test.YtfcaokpadodijaaGreatMgam
import Derived.Test.YtfcaokpadodijaaGreatMgaa
import Derived.Test.YtfcaokpadodijaaGreatMgak
import Derived.Laws.ResultCell
/- Plain facts of the reference's faults. -/
namespace Go.Proofs.YtfcaokpadodijaaGreat
open Go.RowKit

theorem eachE_hit {n k : Nat} {most : Int} {f : Nat → Int} (hm : (n : Int) ≤ most) (hk : k < n) (h0 : ∀ i, i < k → f i = 0) (h : f k ≠ 0) : eachE n most f = f k := by
 unfold eachE
 rw [if_neg (by omega), Int.toNat_natCast]
 exact errsTo_hit hk h0 h
theorem eachE_none {n : Nat} {most : Int} {f : Nat → Int} (hm : (n : Int) ≤ most) (h0 : ∀ i, i < n → f i = 0) : eachE n most f = 0 := by
 unfold eachE
 rw [if_neg (by omega), Int.toNat_natCast]
 exact errsTo_none h0
end Go.Proofs.YtfcaokpadodijaaGreat
/- SlotsFault: what is wrong with slots. -/
namespace Go.Proofs.YtfcaokpadodijaaGreat
open Go.RowKit

theorem rows_take {w : World} {T lo sz g off n c m : Nat} {rows : List (List Value)} (h : Rows w T lo sz (.slice (some ⟨g, off, none⟩) n c) rows) (hn : n = rows.length) (hm : m ≤ n) : Rows w T lo sz (.slice (some ⟨g, off, none⟩) m c) (rows.take m) := by
 have hf := h.fits
 have e0 : (rows.take m).length = m := by simp; omega
 have hsm := h.small
 rcases h.shape with ⟨e, _⟩ | ⟨g', off', cap, cur, fr, e, h2, h3, h4⟩
 ·cases e
 ·simp only [Value.slice.injEq, Option.some.injEq, Addr.mk.injEq, and_true] at e
  obtain ⟨⟨rfl, rfl⟩, _, rfl⟩ := e
  refine ⟨by omega, fun r hr => h.each r (List.mem_of_mem_take hr), .inr ⟨g, off, c, cur, fr, by rw [e0], ⟨h2.1, by rw [e0]; omega⟩, h3, fun i j u hu => ?_⟩⟩
  refine h4 i j u ?_
  rw [List.getElem?_take] at hu
  split at hu
  ·exact hu
  ·simp at hu
theorem nrows_take {α : Type} {row : α → Value → List Value} {pos : α → List ByteArray} {w : World} {T lo sz g off n c m : Nat} {xs : List α} (h : NRows row pos w T lo sz (.slice (some ⟨g, off, none⟩) n c) xs) (hn : n = xs.length) (hm : m ≤ n) : NRows row pos w T lo sz (.slice (some ⟨g, off, none⟩) m c) (xs.take m) := by
 obtain ⟨pvs, hl, hr, hp⟩ := h
 refine ⟨pvs.take m, by simp; omega, ?_, fun i x a hx ha => ?_⟩
 ·have := rows_take (m := m) hr (by rw [nRows_length hl]; exact hn) hm
  unfold nRows at this ⊢
  rw [List.take_zipWith] at this
  exact this
 ·rw [List.getElem?_take] at hx ha
  split at hx
  ·rw [if_pos (by assumption)] at ha
   exact hp i x a hx ha
  ·cases hx
def slAt (xs : List SlD) (i : Nat) : SlD := xs[i]?.getD ⟨⟨#[]⟩, []⟩
theorem slAt_some {xs : List SlD} {i : Nat} {s : SlD} (h : xs[i]? = some s) : slAt xs i = s := by simp [slAt, h]
def earB (xs : List SlD) (i : Nat) (k : ByteArray) : Bool := (xs.take i).any fun y => beqS y.key k
/-- What is wrong with slot i. -/
def slF (xs : List SlD) (i : Nat) : Int := firstE [unlessE (keyB (slAt xs i).key) 5, unlessE (!earB xs i (slAt xs i).key) 6, poE (slAt xs i).pos]
def chkSl (xs : List SlD) : Int := firstE [unlessE (decide (0 < xs.length)) 8, eachE xs.length 12 (slF xs)]
theorem slotsFault1_calls (f : SlD) (k : ByteArray) (xa : Option Addr) (n c X : Nat) (w : World) (hX : w.cell? ⟨X, 0, none⟩ = some (.string k)) :
  Calls Tryz.prog 56 #[.agg #[.string f.key, .slice xa n c], .pointer (some ⟨X, 0, none⟩)] w (BoolIs (beqS f.key k) w) := by
 go_enter Tryz.func56, Tryz.ntmps56
 have hX1 := below_cell (below_alloc w (.cells #[.string f.key, .slice xa n c] 72)) hX
 go_wp2_with fail
 go_ret
 exact ⟨ret_bool (by unfold beqS; rfl), below_alloc w _⟩
set_option maxRecDepth 100000 in
set_option maxHeartbeats 8000000 in
theorem slotsFault_calls (lo : Nat) (v : Value) (xs : List SlD) (w : World) (hR : Sls w lo v xs) (hs : ∀ c ∈ xs, SmallSl c) :
  Calls Tryz.prog 13 #[v] w (IntBelow (chkSl xs) w) := by
 rcases sls_at hR with ⟨rfl, rfl⟩ | ⟨g, off, cap, rfl, _, hg, hn, hcell⟩
 ·clear hR hs
  go_enter Tryz.func13, Tryz.ntmps13
  go_wp2_with fail
  go_ret
  exact ⟨rfl, Below.refl _ _⟩
 have Hs := Lib.hid hs
 have Hc := Lib.hid hcell
 have HR := Lib.hid hR
 clear hs hcell hR
 by_cases h0 : xs.length = 0
 ·have HN := Lib.hid (show chkSl xs = 8 by unfold chkSl; rw [h0]; rfl)
  have e0 : ((xs.length : Int) == 0) = true := by rw [beq_iff_eq]; omega
  clear h0
  go_enter Tryz.func13, Tryz.ntmps13
  go_wp2_with fail
  go_ret
  exact ⟨ret_int HN.out.symm, Below.refl _ _⟩
 have e0 : ((xs.length : Int) == 0) = false := by rw [beq_eq_false_iff_ne]; omega
 have HE := Lib.hid (show chkSl xs = eachE xs.length 12 (slF xs) by
  unfold chkSl
  rw [decide_eq_true (show 0 < xs.length by omega)]
  simp [unlessE, firstE]
  exact fun h => h.symm)
 rw [HE.out]
 clear h0
 by_cases hm : xs.length ≤ 12
 ·have Hm := Lib.hid (show (xs.length : Int) ≤ 12 by omega)
  go_enter Tryz.func13, Tryz.ntmps13
  go_wp2_with fail
  clear e0
  go_loopw [16] (fun i wr => ∃ k : Nat, k ≤ xs.length ∧ i = .int .i64 k ∧ Hid (∀ i, i < k → slF xs i = 0) ∧ Below w.heap.size w wr) (fun i _ => xs.length - (intOf i).toNat)
  case atStart => exact ⟨0, Nat.zero_le _, rfl, Lib.hid (fun i hi => by omega), Below.refl _ _⟩
  case round =>
   obtain ⟨k, hk, rfl, H0, hb⟩ := hrel
   by_cases hlt : k < xs.length
   ·obtain ⟨c, hc⟩ : ∃ c, xs[k]? = some c := ⟨xs[k], List.getElem?_eq_getElem hlt⟩
    obtain ⟨s1, s2, s3⟩ := Hs.out c (List.mem_of_getElem? hc)
    have HF := Lib.hid (show slF xs k = firstE [unlessE (keyB c.key) 5, unlessE (!earB xs k c.key) 6, lfE true c.pos] by unfold slF; rw [slAt_some hc, poE_eq])
    have Hhit := Lib.hid (fun (h : slF xs k ≠ 0) => (show eachE xs.length 12 (slF xs) = slF xs k from eachE_hit Hm.out hlt H0.out h))
    have Hnext := Lib.hid (fun (h : slF xs k = 0) i (hi : i < k + 1) => (show slF xs i = 0 by
     rcases Nat.lt_succ_iff_lt_or_eq.1 hi with h' | rfl
     ·exact H0.out i h'
     ·exact h))
    obtain ⟨pv, q0, q1, hpv⟩ := Hc.out k c hc
    obtain ⟨pa, pc, rfl⟩ := strs_shape hpv
    have p0 := below_cell hb q0
    have p1 := below_cell hb q1
    have HL := Lib.hid (fun w' (hb' : Below w.heap.size w w') => listFault_calls true lo _ c.pos w' (hpv.below hb') s3 (by omega))
    have HT := Lib.hid (fun w' (hb' : Below w.heap.size w w') => (show Sls w' lo (.slice (some ⟨g, off, none⟩) k cap) (xs.take k) from NRows.below (nrows_take HR.out rfl (by omega)) hb'))
    have hfit : xs.length ≤ cap := by obtain ⟨_, hl, hr, _⟩ := HR.out; exact Rows.fits hr
    clear hc s2 s3 q0 q1 hpv
    go_upto_region 8 with fail
    obtain ⟨wA, hwA⟩ : ∃ wA, wA = wr.alloc (.cells #[.string c.key, .slice pa c.pos.length pc] 72) := ⟨_, rfl⟩
    obtain ⟨X, hX⟩ : ∃ X, X = wr.heap.size := ⟨_, rfl⟩
    have hbA : Below w.heap.size w wA := by rw [hwA]; exact below_step hb (below_alloc wr _)
    have hx : wA.heap[X]? = some (.cells #[.string c.key, .slice pa c.pos.length pc] 72 (0, 0)) := by rw [hwA, hX]; exact heap_alloc_new wr _
    rw [← hwA, ← hX]
    have x0 := cell_at hx 0 rfl
    have x1 := cell_at hx 1 rfl
    have HbA := Lib.hid hbA
    have HC := Lib.hid (containsSl_calls 56 #[.pointer (some ⟨X, 0, none⟩)] (fun y => beqS y.key c.key) lo _ (xs.take k) wA (HT.out wA hbA) (by intro args w; go_simp) (fun W f xa xc hb => slotsFault1_calls f c.key xa _ xc X W (below_cell hb x0)))
    have HEB := Lib.hid (show (xs.take k).any (fun y => beqS y.key c.key) = earB xs k c.key from rfl)
    rw [HEB.out] at HC
    have Hx := Lib.hid hx
    have hkc : k ≤ cap := by omega
    clear hwA hX hbA hx hb p0 p1 HT HEB
    cases hnm : keyB c.key
    ·have HN := Lib.hid (show slF xs k = 5 by rw [HF.out, hnm]; simp [unlessE, firstE])
     have HK := Lib.hid hnm
     clear hnm
     go_wp2_with fail
     refine (keyR_calls _ _ (by omega)).mono ?_
     rintro e w' ⟨rfl, rfl⟩
     rw [HK.out]
     go_wp2_with fail
     go_ret
     exact ⟨ret_int (by rw [Hhit.out (by rw [HN.out]; omega), HN.out]), HbA.out⟩
    ·have HK := Lib.hid hnm
     clear hnm
     go_wp2_with fail
     refine (keyR_calls _ _ (by omega)).mono ?_
     rintro e w' ⟨rfl, rfl⟩
     rw [HK.out]
     go_wp2_with fail
     refine HC.out.mono ?_
     rintro e w2 ⟨rfl, hb2⟩
     have hx2 := cells_later Hx.out hb2
     have z0 := cell_at hx2 0 rfl
     have z1 := cell_at hx2 1 rfl
     have hb02 := below_step HbA.out hb2
     clear hx2 hb2
     cases he : earB xs k c.key
     ·have HRE := Lib.hid (show slF xs k = lfE true c.pos by rw [HF.out, HK.out, he]; simp [unlessE, firstE]; exact fun h => h.symm)
      clear he
      go_wp2_with fail
      refine (HL.out w2 hb02).mono ?_
      rintro e w' ⟨rfl, rfl⟩
      rw [← HRE.out]
      by_cases hz : slF xs k = 0
      ·have e2 : (slF xs k != 0) = false := by simp [hz]
       have HN := Lib.hid (Hnext.out hz)
       clear hz
       go_wp2_with fail
       go_roundw
       case rel => exact ⟨k + 1, by omega, by go_num, HN, hb02⟩
       case measure => simp [intOf]; omega
      ·have e2 : (slF xs k != 0) = true := by simp [hz]
       have HN := Lib.hid (Hhit.out hz)
       clear hz
       go_wp2_with fail
       go_ret
       exact ⟨ret_int HN.out.symm, hb02⟩
     ·have HN := Lib.hid (show slF xs k = 6 by rw [HF.out, HK.out, he]; simp [unlessE, firstE])
      clear he
      go_wp2_with fail
      go_ret
      exact ⟨ret_int (by rw [Hhit.out (by rw [HN.out]; omega), HN.out]), hb02⟩
   ·obtain rfl : k = xs.length := by omega
    have HN := Lib.hid (show eachE xs.length 12 (slF xs) = 0 from eachE_none Hm.out H0.out)
    go_wp2_with fail
    go_ret
    exact ⟨ret_int HN.out.symm, hb⟩
 ·have HN := Lib.hid (show eachE xs.length 12 (slF xs) = 2 by unfold eachE; rw [if_pos (by omega)])
  go_enter Tryz.func13, Tryz.ntmps13
  go_wp2_with fail
  go_ret
  exact ⟨ret_int HN.out.symm, Below.refl _ _⟩
end Go.Proofs.YtfcaokpadodijaaGreat
/- CheckSlots. -/
namespace Go.Proofs.YtfcaokpadodijaaGreat
open Go.RowKit

theorem checkSlots11_calls (f : SlD) (k : ByteArray) (xa : Option Addr) (n c X : Nat) (w : World) (hX : w.cell? ⟨X, 0, none⟩ = some (.string k)) :
  Calls Tryz.prog 70 #[.agg #[.string f.key, .slice xa n c], .pointer (some ⟨X, 0, none⟩)] w (BoolIs (beqS f.key k) w) := by
 go_enter Tryz.func70, Tryz.ntmps70
 have hX1 := below_cell (below_alloc w (.cells #[.string f.key, .slice xa n c] 72)) hX
 go_wp2_with fail
 go_ret
 exact ⟨ret_bool (by unfold beqS; rfl), below_alloc w _⟩
theorem nums3s (w : World) (T : Nat) (a b c : Int) : NumsAt (w.alloc (.cells #[.int .i64 a, .int .i64 b, .int .i64 c] T)) w.heap.size 0 [a, b, c] := by
 intro i x hx
 rw [World.cell?_alloc_at _ _ _ _ rfl]
 match i, hx with
 | 0, hx => simp at hx; subst hx; rfl
 | 1, hx => simp at hx; subst hx; rfl
 | 2, hx => simp at hx; subst hx; rfl
def ops_69_3 : Array Go.Oper := #[
 ⟨some 15, .fieldAddr 72 (.tmp 4) 0, 0, "lineup.go:20", #[], none⟩,
 ⟨some 16, .load 9 (.tmp 15), 9, "lineup.go:20", #[⟨0, .data⟩], none⟩,
 ⟨some 17, .call { callee := .value (.func 71), args := #[.tmp 16], argTypes := #[9] }, 4, "lineup.go:21", #[⟨1, .data⟩], none⟩,
 ⟨some 18, .call { callee := .value (.func 47), args := #[.tmp 17, .const (.int .i64 5)], argTypes := #[4, 35] }, 35, "lineup.go:21", #[⟨2, .data⟩, ⟨2, .chain⟩], none⟩,
 ⟨some 19, .move (.tmp 5), 4, "lineup.go:20", #[], none⟩,
 ⟨some 20, .unOp .not 4 (.tmp 19), 4, "lineup.go:20", #[⟨4, .data⟩], none⟩,
 ⟨some 21, .call { callee := .value (.func 47), args := #[.tmp 20, .const (.int .i64 6)], argTypes := #[4, 35] }, 35, "lineup.go:22", #[⟨5, .data⟩, ⟨3, .chain⟩], none⟩,
 ⟨some 22, .fieldAddr 72 (.tmp 4) 1, 0, "lineup.go:20", #[], none⟩,
 ⟨some 23, .load 39 (.tmp 22), 39, "lineup.go:20", #[⟨7, .data⟩], none⟩,
 ⟨some 24, .call { callee := .value (.func 72), args := #[.tmp 23], argTypes := #[39] }, 35, "lineup.go:23", #[⟨8, .data⟩, ⟨6, .chain⟩], none⟩,
 ⟨some 25, .buildSlice 90 3 #[(0, .tmp 18), (1, .tmp 21), (2, .tmp 24)], 90, "lineup.go:20", #[⟨3, .data⟩, ⟨6, .data⟩, ⟨9, .data⟩], none⟩,
 ⟨some 26, .call { callee := .value (.func 46), args := #[.tmp 25], argTypes := #[90] }, 35, "lineup.go:20", #[⟨10, .data⟩, ⟨9, .chain⟩], none⟩,
 ⟨some 3, .assign (.tmp 26), 35, "lineup.go:20", #[⟨11, .data⟩, ⟨11, .chain⟩, ⟨0, .phase⟩, ⟨1, .phase⟩, ⟨2, .phase⟩, ⟨3, .phase⟩, ⟨4, .phase⟩, ⟨5, .phase⟩, ⟨6, .phase⟩, ⟨7, .phase⟩, ⟨8, .phase⟩, ⟨9, .phase⟩, ⟨10, .phase⟩, ⟨11, .phase⟩], none⟩]
theorem ops_69_3_0 : ops_69_3[0]? = some (⟨some 15, .fieldAddr 72 (.tmp 4) 0, 0, "lineup.go:20", #[], none⟩ : Go.Oper) := rfl
theorem ops_69_3_1 : ops_69_3[1]? = some (⟨some 16, .load 9 (.tmp 15), 9, "lineup.go:20", #[⟨0, .data⟩], none⟩ : Go.Oper) := rfl
theorem ops_69_3_2 : ops_69_3[2]? = some (⟨some 17, .call { callee := .value (.func 71), args := #[.tmp 16], argTypes := #[9] }, 4, "lineup.go:21", #[⟨1, .data⟩], none⟩ : Go.Oper) := rfl
theorem ops_69_3_3 : ops_69_3[3]? = some (⟨some 18, .call { callee := .value (.func 47), args := #[.tmp 17, .const (.int .i64 5)], argTypes := #[4, 35] }, 35, "lineup.go:21", #[⟨2, .data⟩, ⟨2, .chain⟩], none⟩ : Go.Oper) := rfl
theorem ops_69_3_4 : ops_69_3[4]? = some (⟨some 19, .move (.tmp 5), 4, "lineup.go:20", #[], none⟩ : Go.Oper) := rfl
theorem ops_69_3_5 : ops_69_3[5]? = some (⟨some 20, .unOp .not 4 (.tmp 19), 4, "lineup.go:20", #[⟨4, .data⟩], none⟩ : Go.Oper) := rfl
theorem ops_69_3_6 : ops_69_3[6]? = some (⟨some 21, .call { callee := .value (.func 47), args := #[.tmp 20, .const (.int .i64 6)], argTypes := #[4, 35] }, 35, "lineup.go:22", #[⟨5, .data⟩, ⟨3, .chain⟩], none⟩ : Go.Oper) := rfl
theorem ops_69_3_7 : ops_69_3[7]? = some (⟨some 22, .fieldAddr 72 (.tmp 4) 1, 0, "lineup.go:20", #[], none⟩ : Go.Oper) := rfl
theorem ops_69_3_8 : ops_69_3[8]? = some (⟨some 23, .load 39 (.tmp 22), 39, "lineup.go:20", #[⟨7, .data⟩], none⟩ : Go.Oper) := rfl
theorem ops_69_3_9 : ops_69_3[9]? = some (⟨some 24, .call { callee := .value (.func 72), args := #[.tmp 23], argTypes := #[39] }, 35, "lineup.go:23", #[⟨8, .data⟩, ⟨6, .chain⟩], none⟩ : Go.Oper) := rfl
theorem ops_69_3_10 : ops_69_3[10]? = some (⟨some 25, .buildSlice 90 3 #[(0, .tmp 18), (1, .tmp 21), (2, .tmp 24)], 90, "lineup.go:20", #[⟨3, .data⟩, ⟨6, .data⟩, ⟨9, .data⟩], none⟩ : Go.Oper) := rfl
theorem ops_69_3_11 : ops_69_3[11]? = some (⟨some 26, .call { callee := .value (.func 46), args := #[.tmp 25], argTypes := #[90] }, 35, "lineup.go:20", #[⟨10, .data⟩, ⟨9, .chain⟩], none⟩ : Go.Oper) := rfl
theorem ops_69_3_12 : ops_69_3[12]? = some (⟨some 3, .assign (.tmp 26), 35, "lineup.go:20", #[⟨11, .data⟩, ⟨11, .chain⟩, ⟨0, .phase⟩, ⟨1, .phase⟩, ⟨2, .phase⟩, ⟨3, .phase⟩, ⟨4, .phase⟩, ⟨5, .phase⟩, ⟨6, .phase⟩, ⟨7, .phase⟩, ⟨8, .phase⟩, ⟨9, .phase⟩, ⟨10, .phase⟩, ⟨11, .phase⟩], none⟩ : Go.Oper) := rfl
theorem ops_69_3_ns : Go.Region.noSelect ops_69_3 = true := by kernel_rfl
def ops_23_1 : Array Go.Oper := #[
 ⟨some 3, .load 26 (.tmp 1), 26, "lineup.go:15", #[], none⟩,
 ⟨some 4, .call { callee := .builtin .len, args := #[.tmp 3], argTypes := #[26] }, 3, "lineup.go:15", #[⟨0, .data⟩], none⟩,
 ⟨some 5, .binOp .gtr 3 (.tmp 4) (.const (.int .i64 0)) 3, 4, "lineup.go:15", #[⟨1, .data⟩], none⟩,
 ⟨some 6, .call { callee := .value (.func 47), args := #[.tmp 5, .const (.int .i64 8)], argTypes := #[4, 35] }, 35, "lineup.go:16", #[⟨2, .data⟩], none⟩,
 ⟨some 7, .load 26 (.tmp 1), 26, "lineup.go:15", #[], none⟩,
 ⟨some 8, .call { callee := .builtin .len, args := #[.tmp 7], argTypes := #[26] }, 3, "lineup.go:15", #[⟨4, .data⟩], none⟩,
 ⟨some 9, .makeFunc (.func 69) #[] #[.tmp 1], 109, "lineup.go:15", #[], none⟩,
 ⟨some 10, .call { callee := .value (.func 68), args := #[.tmp 8, .const (.int .i64 12), .tmp 9], argTypes := #[3, 3, 109] }, 35, "lineup.go:17", #[⟨5, .data⟩, ⟨6, .data⟩, ⟨3, .chain⟩], none⟩,
 ⟨some 11, .buildSlice 90 2 #[(0, .tmp 6), (1, .tmp 10)], 90, "lineup.go:15", #[⟨3, .data⟩, ⟨7, .data⟩], none⟩,
 ⟨some 12, .call { callee := .value (.func 46), args := #[.tmp 11], argTypes := #[90] }, 35, "lineup.go:15", #[⟨8, .data⟩, ⟨7, .chain⟩], none⟩,
 ⟨some 2, .assign (.tmp 12), 35, "lineup.go:15", #[⟨9, .data⟩, ⟨9, .chain⟩, ⟨0, .phase⟩, ⟨1, .phase⟩, ⟨2, .phase⟩, ⟨3, .phase⟩, ⟨4, .phase⟩, ⟨5, .phase⟩, ⟨6, .phase⟩, ⟨7, .phase⟩, ⟨8, .phase⟩, ⟨9, .phase⟩], none⟩]
theorem ops_23_1_0 : ops_23_1[0]? = some (⟨some 3, .load 26 (.tmp 1), 26, "lineup.go:15", #[], none⟩ : Go.Oper) := rfl
theorem ops_23_1_1 : ops_23_1[1]? = some (⟨some 4, .call { callee := .builtin .len, args := #[.tmp 3], argTypes := #[26] }, 3, "lineup.go:15", #[⟨0, .data⟩], none⟩ : Go.Oper) := rfl
theorem ops_23_1_2 : ops_23_1[2]? = some (⟨some 5, .binOp .gtr 3 (.tmp 4) (.const (.int .i64 0)) 3, 4, "lineup.go:15", #[⟨1, .data⟩], none⟩ : Go.Oper) := rfl
theorem ops_23_1_3 : ops_23_1[3]? = some (⟨some 6, .call { callee := .value (.func 47), args := #[.tmp 5, .const (.int .i64 8)], argTypes := #[4, 35] }, 35, "lineup.go:16", #[⟨2, .data⟩], none⟩ : Go.Oper) := rfl
theorem ops_23_1_4 : ops_23_1[4]? = some (⟨some 7, .load 26 (.tmp 1), 26, "lineup.go:15", #[], none⟩ : Go.Oper) := rfl
theorem ops_23_1_5 : ops_23_1[5]? = some (⟨some 8, .call { callee := .builtin .len, args := #[.tmp 7], argTypes := #[26] }, 3, "lineup.go:15", #[⟨4, .data⟩], none⟩ : Go.Oper) := rfl
theorem ops_23_1_6 : ops_23_1[6]? = some (⟨some 9, .makeFunc (.func 69) #[] #[.tmp 1], 109, "lineup.go:15", #[], none⟩ : Go.Oper) := rfl
theorem ops_23_1_7 : ops_23_1[7]? = some (⟨some 10, .call { callee := .value (.func 68), args := #[.tmp 8, .const (.int .i64 12), .tmp 9], argTypes := #[3, 3, 109] }, 35, "lineup.go:17", #[⟨5, .data⟩, ⟨6, .data⟩, ⟨3, .chain⟩], none⟩ : Go.Oper) := rfl
theorem ops_23_1_8 : ops_23_1[8]? = some (⟨some 11, .buildSlice 90 2 #[(0, .tmp 6), (1, .tmp 10)], 90, "lineup.go:15", #[⟨3, .data⟩, ⟨7, .data⟩], none⟩ : Go.Oper) := rfl
theorem ops_23_1_9 : ops_23_1[9]? = some (⟨some 12, .call { callee := .value (.func 46), args := #[.tmp 11], argTypes := #[90] }, 35, "lineup.go:15", #[⟨8, .data⟩, ⟨7, .chain⟩], none⟩ : Go.Oper) := rfl
theorem ops_23_1_10 : ops_23_1[10]? = some (⟨some 2, .assign (.tmp 12), 35, "lineup.go:15", #[⟨9, .data⟩, ⟨9, .chain⟩, ⟨0, .phase⟩, ⟨1, .phase⟩, ⟨2, .phase⟩, ⟨3, .phase⟩, ⟨4, .phase⟩, ⟨5, .phase⟩, ⟨6, .phase⟩, ⟨7, .phase⟩, ⟨8, .phase⟩, ⟨9, .phase⟩], none⟩ : Go.Oper) := rfl
theorem ops_23_1_ns : Go.Region.noSelect ops_23_1 = true := by kernel_rfl
set_option maxRecDepth 100000 in
set_option maxHeartbeats 16000000 in
theorem checkSlots1_calls (b g off cap i lo : Nat) (xs : List SlD) (c : SlD) (w : World) (hi : xs[i]? = some c) (hs : SmallSl c) (hn : xs.length ≤ 1000000)
  (h1 : w.cell? ⟨b, 0, none⟩ = some (.slice (some ⟨g, off, none⟩) xs.length cap)) (hR : Sls w lo (.slice (some ⟨g, off, none⟩) xs.length cap) xs) :
  Calls Tryz.prog 69 #[.int .i64 (i : Int), .pointer (some ⟨b, 0, none⟩)] w (IntBelow (slF xs i) w) := by
 have hlt : i < xs.length := (List.getElem?_eq_some_iff.1 hi).1
 rcases sls_at hR with ⟨h, _⟩ | ⟨g', off', cap', e, _, _, _, hcell⟩
 ·cases h
 simp only [Value.slice.injEq, Option.some.injEq, Addr.mk.injEq, and_true, true_and] at e
 obtain ⟨⟨rfl, rfl⟩, rfl⟩ := e
 obtain ⟨pv, q0, q1, hpv⟩ := hcell i c hi
 obtain ⟨pa, pc, rfl⟩ := strs_shape hpv
 have hfit : xs.length ≤ cap := by obtain ⟨_, hl, hr, _⟩ := hR; exact Rows.fits hr
 obtain ⟨W, hW⟩ : ∃ W, W = w.alloc (.cells #[.string c.key, .slice pa c.pos.length pc] 72) := ⟨_, rfl⟩
 have hwW : Below w.heap.size w W := by rw [hW]; exact below_alloc w _
 have hx : W.heap[w.heap.size]? = some (.cells #[.string c.key, .slice pa c.pos.length pc] 72 (0, 0)) := by rw [hW]; exact heap_alloc_new w _
 have x0 := cell_at hx 0 rfl
 have x1 := cell_at hx 1 rfl
 have c1 := below_cell hwW h1
 obtain ⟨hs1, hs2, hs3⟩ := hs
 have HP := Lib.hid (show ∀ w', Below w.heap.size w w' → Calls Tryz.prog 72 #[.slice pa c.pos.length pc] w' (IntBelow (poE c.pos) w') from fun w' hb => positions_calls lo _ c.pos w' (hpv.below hb) hs3 (by omega))
 have HC := Lib.hid (containsSl_calls 70 #[.pointer (some ⟨w.heap.size, 0, none⟩)] (fun y => beqS y.key c.key) lo _ (xs.take i) W (NRows.below (nrows_take hR rfl (by omega : i ≤ xs.length)) hwW) (by intro args w; go_simp) (fun V f xa xc hb => checkSlots11_calls f c.key xa _ xc w.heap.size V (below_cell hb x0)))
 have HEB := Lib.hid (show (xs.take i).any (fun y => beqS y.key c.key) = earB xs i c.key from rfl)
 rw [HEB.out] at HC
 have Hr := Lib.hid (show slF xs i = firstE [unlessE (keyB c.key) 5, unlessE (!earB xs i c.key) 6, poE c.pos] by unfold slF; rw [slAt_some hi])
 have Hx := Lib.hid hx
 have hic : i ≤ cap := by omega
 have hil : i ≤ xs.length := by omega
 generalize earB xs i c.key = eb at HC Hr
 clear hs2 hs3 hx hpv hR hcell hi HEB
 go_enter Tryz.func69, Tryz.ntmps69
 go_upto_region 2 with fail
 rw [← hW]
 clear hW
 go_wp2_with fail
 refine HC.out.mono ?_
 rintro e w2 ⟨rfl, hb2⟩
 have hx2 := cells_later Hx.out hb2
 have z0 := cell_at hx2 0 rfl
 have z1 := cell_at hx2 1 rfl
 have Hb02 := Lib.hid (hwW.trans (hb2.mono hwW.size))
 have HS := Lib.hid (show ∀ w', Below w2.heap.size w2 w' → (Below w2.heap.size w2 w' ∧ w'.cell? ⟨w.heap.size, 0, none⟩ = some (.string c.key) ∧ w'.cell? ⟨w.heap.size, 1, none⟩ = some (.slice pa c.pos.length pc)) from fun w' hb => ⟨hb, below_cell hb z0, below_cell hb z1⟩)
 have hb0 := (Below.refl w2.heap.size w2).drew
 clear hx2 x0 x1 c1 HC hb2 hwW
 go_upto_region 3 with fail
 show Code.wp _ (Code.region 3 ops_69_3 true) _ _ _
 refine region_start 13 (fun w' => Below w2.heap.size w2 w' ∧ w'.cell? ⟨w.heap.size, 0, none⟩ = some (.string c.key) ∧ w'.cell? ⟨w.heap.size, 1, none⟩ = some (.slice pa c.pos.length pc)) (by kernel_rfl) rfl ?_ (fun hHeld => ?_)
 ·(exact HS.out _ (by first | assumption | exact hHeld.1 | exact below_step hHeld.1 (by assumption) | exact below_step hHeld.1 (below_alloc _ _)))
 refine take_to 0 15 (bQ 13 1) (v := ?_) ops_69_3_0 rfl ops_69_3_ns (by kernel_rfl) (by kernel_rfl) (fun _ _ _ h => h) (by rfl) ?y00 (by assumption) ?_
 case y00 => intro w hSw; (try dsimp only at hSw); go_simp; try with_reducible rfl
 simp only [sE0, sE1]
 refine take_to 1 16 (bQ 13 3) (v := ?_) ops_69_3_1 rfl ops_69_3_ns (by kernel_rfl) (by kernel_rfl) (fun _ _ _ h => h) (by rfl) ?y10 (by assumption) ?_
 case y10 => intro w hSw; (try dsimp only at hSw); go_simp; try with_reducible rfl
 simp only [sE0, sE1]
 refine take_to 4 19 (bQ 13 19) (v := ?_) ops_69_3_4 rfl ops_69_3_ns (by kernel_rfl) (by kernel_rfl) (fun _ _ _ h => h) (by rfl) ?y40 (by assumption) ?_
 case y40 => intro w hSw; (try dsimp only at hSw); go_simp; try with_reducible rfl
 simp only [sE0, sE1]
 refine take_to 5 20 (bQ 13 51) (v := ?_) ops_69_3_5 rfl ops_69_3_ns (by kernel_rfl) (by kernel_rfl) (fun _ _ _ h => h) (by rfl) ?y50 (by assumption) ?_
 case y50 => intro w hSw; (try dsimp only at hSw); go_simp; try with_reducible rfl
 simp only [sE0, sE1]
 refine take_to 7 22 (bQ 13 179) (v := ?_) ops_69_3_7 rfl ops_69_3_ns (by kernel_rfl) (by kernel_rfl) (fun _ _ _ h => h) (by rfl) ?y70 (by assumption) ?_
 case y70 => intro w hSw; (try dsimp only at hSw); go_simp; try with_reducible rfl
 simp only [sE0, sE1]
 refine take_to 8 23 (bQ 13 435) (v := ?_) ops_69_3_8 rfl ops_69_3_ns (by kernel_rfl) (by kernel_rfl) (fun _ _ _ h => h) (by rfl) ?y80 (by assumption) ?_
 case y80 => intro w hSw; (try dsimp only at hSw); go_simp; try with_reducible rfl
 simp only [sE0, sE1]
 refine run_to 2 (bQ 13 439) ops_69_3_2 (by kernel_rfl) (by kernel_rfl) (by rfl) (fun K hK => ?_)
 go_simp
 refine (key_calls _ _ (by omega)).mono ?_
 rintro e w' ⟨rfl, rfl⟩
 go_wp2_with fail
 refine hK.out _ _ ?_ (fun hHeld => ?_)
 ·(exact HS.out _ (by first | assumption | exact hHeld.1 | exact below_step hHeld.1 (by assumption) | exact below_step hHeld.1 (below_alloc _ _)))
 clear hK K
 try simp only [Act.put, sEt, sE0, sE1]
 refine run_to 3 (bQ 13 447) ops_69_3_3 (by kernel_rfl) (by kernel_rfl) (by rfl) (fun K hK => ?_)
 go_simp
 refine (unless_calls _ _ _).mono ?_
 rintro e w' ⟨rfl, rfl⟩
 go_wp2_with fail
 refine hK.out _ _ ?_ (fun hHeld => ?_)
 ·(exact HS.out _ (by first | assumption | exact hHeld.1 | exact below_step hHeld.1 (by assumption) | exact below_step hHeld.1 (below_alloc _ _)))
 clear hK K
 try simp only [Act.put, sEt, sE0, sE1]
 refine run_to 6 (bQ 13 511) ops_69_3_6 (by kernel_rfl) (by kernel_rfl) (by rfl) (fun K hK => ?_)
 go_simp
 refine (unless_calls _ _ _).mono ?_
 rintro e w' ⟨rfl, rfl⟩
 go_wp2_with fail
 refine hK.out _ _ ?_ (fun hHeld => ?_)
 ·(exact HS.out _ (by first | assumption | exact hHeld.1 | exact below_step hHeld.1 (by assumption) | exact below_step hHeld.1 (below_alloc _ _)))
 clear hK K
 try simp only [Act.put, sEt, sE0, sE1]
 refine run_to 9 (bQ 13 1023) ops_69_3_9 (by kernel_rfl) (by kernel_rfl) (by rfl) (fun K hK => ?_)
 go_simp
 refine (HP.out _ (below_step Hb02.out hHeld.1)).mono ?_
 rintro e w' ⟨rfl, hb⟩
 go_wp2_with fail
 refine hK.out _ _ ?_ (fun hHeld => ?_)
 ·(exact HS.out _ (by first | assumption | exact hHeld.1 | exact below_step hHeld.1 (by assumption) | exact below_step hHeld.1 (below_alloc _ _)))
 clear hK K
 try simp only [Act.put, sEt, sE0, sE1]
 refine run_to 10 (bQ 13 2047) ops_69_3_10 (by kernel_rfl) (by kernel_rfl) (by rfl) (fun K hK => ?_)
 go_simp
 refine hK.out _ _ ?_ (fun hHeld => ?_)
 ·(exact HS.out _ (by first | assumption | exact hHeld.1 | exact below_step hHeld.1 (by assumption) | exact below_step hHeld.1 (below_alloc _ _)))
 clear hK K
 try simp only [Act.put, sEt, sE0, sE1]
 refine run_to 11 (bQ 13 4095) ops_69_3_11 (by kernel_rfl) (by kernel_rfl) (by rfl) (fun K hK => ?_)
 go_simp
 refine (orE_calls _ 0 3 [unlessE (keyB c.key) 5, unlessE (!eb) 6, poE c.pos] _ (by simp) (by exact nums3s _ _ _ _ _)).mono ?_
 rintro e w' ⟨rfl, rfl⟩
 go_wp2_with fail
 refine hK.out _ _ ?_ (fun hHeld => ?_)
 ·(exact HS.out _ (by first | assumption | exact hHeld.1 | exact below_step hHeld.1 (by assumption) | exact below_step hHeld.1 (below_alloc _ _)))
 clear hK K
 try simp only [Act.put, sEt, sE0, sE1]
 refine take_to 12 3 (bQ 13 8191) (v := ?_) ops_69_3_12 rfl ops_69_3_ns (by kernel_rfl) (by kernel_rfl) (fun _ _ _ h => h) (by rfl) ?y120 (by assumption) ?_
 case y120 => intro w hSw; (try dsimp only at hSw); go_simp; try with_reducible rfl
 simp only [sE0, sE1]
 refine wpAnyH_done (by kernel_rfl) ?_ _
 go_wp2_with fail
 go_ret
 exact ⟨ret_int Hr.out.symm, below_step Hb02.out hHeld.1⟩
set_option maxRecDepth 100000 in
set_option maxHeartbeats 4000000 in
theorem checkSlots_calls (lo : Nat) (v : Value) (xs : List SlD) (w : World) (hR : Sls w lo v xs) (hs : ∀ c ∈ xs, SmallSl c) (hn : xs.length ≤ 1000000) :
  Calls Tryz.prog 23 #[v] w (IntBelow (chkSl xs) w) := by
 obtain ⟨a, c, rfl⟩ := NRows.shape hR
 obtain ⟨W, hW⟩ : ∃ W, W = w.alloc (.cells #[.slice a xs.length c] 26) := ⟨_, rfl⟩
 have hwW : Below w.heap.size w W := by rw [hW]; exact below_alloc w _
 have x0 : W.cell? ⟨w.heap.size, 0, none⟩ = some (.slice a xs.length c) := by rw [hW, World.cell?_alloc_at _ _ _ _ rfl]; rfl
 have Hs := Lib.hid hs
 have Hf := Lib.hid (show ∀ (V V' : World) (i : Nat), Below W.heap.size W V → i < xs.length → Below V.heap.size V V' → Calls Tryz.prog 69 (#[.int .i64 (i : Int)] ++ #[.pointer (some ⟨w.heap.size, 0, none⟩)]) V' (IntBelow (slF xs i) V') from by
  intro V V' i hbV hi hbW
  obtain ⟨r, hr⟩ : ∃ r, xs[i]? = some r := ⟨xs[i], List.getElem?_eq_getElem hi⟩
  have hRW : Sls V' lo (.slice a xs.length c) xs := NRows.below (NRows.below (NRows.below hR hwW) hbV) hbW
  have y0 := below_cell hbW (below_cell hbV x0)
  rcases sls_at hRW with ⟨_, rfl⟩ | ⟨g, off, cap, e, _⟩
  ·simp at hi
  ·rw [e] at hRW y0
   exact checkSlots1_calls w.heap.size g off cap i lo xs r V' hr (Hs.out r (List.mem_of_getElem? hr)) hn y0 hRW)
 have Hr := Lib.hid (show chkSl xs = firstE [unlessE (decide (0 < xs.length)) 8, eachE xs.length 12 (slF xs)] from rfl)
 have HS := Lib.hid (show ∀ w', Below W.heap.size W w' → (Below W.heap.size W w' ∧ w'.cell? ⟨w.heap.size, 0, none⟩ = some (.slice a xs.length c)) from fun w' hb => ⟨hb, below_cell hb x0⟩)
 have hb0 := (Below.refl W.heap.size W).drew
 clear hs hR x0
 go_enter Tryz.func23, Tryz.ntmps23
 go_upto_region 1 with fail
 rw [← hW]
 clear hW
 show Code.wp _ (Code.region 1 ops_23_1 true) _ _ _
 refine region_start 11 (fun w' => Below W.heap.size W w' ∧ w'.cell? ⟨w.heap.size, 0, none⟩ = some (.slice a xs.length c)) (by kernel_rfl) rfl ?_ (fun hHeld => ?_)
 ·(exact HS.out _ (by first | assumption | exact hHeld.1 | exact below_step hHeld.1 (by assumption) | exact below_step hHeld.1 (below_alloc _ _)))
 refine take_to 0 3 (bQ 11 1) (v := ?_) ops_23_1_0 rfl ops_23_1_ns (by kernel_rfl) (by kernel_rfl) (fun _ _ _ h => h) (by rfl) ?y01 (by assumption) ?_
 case y01 => intro w hSw; (try dsimp only at hSw); go_simp; try with_reducible rfl
 simp only [sE0, sE1]
 refine take_to 1 4 (bQ 11 3) (v := ?_) ops_23_1_1 rfl ops_23_1_ns (by kernel_rfl) (by kernel_rfl) (fun _ _ _ h => h) (by rfl) ?y11 (by assumption) ?_
 case y11 => intro w hSw; (try dsimp only at hSw); go_simp; try with_reducible rfl
 simp only [sE0, sE1]
 refine take_to 2 5 (bQ 11 7) (v := ?_) ops_23_1_2 rfl ops_23_1_ns (by kernel_rfl) (by kernel_rfl) (fun _ _ _ h => h) (by rfl) ?y21 (by assumption) ?_
 case y21 => intro w hSw; (try dsimp only at hSw); go_simp; try with_reducible rfl
 simp only [sE0, sE1]
 refine take_to 4 7 (bQ 11 23) (v := ?_) ops_23_1_4 rfl ops_23_1_ns (by kernel_rfl) (by kernel_rfl) (fun _ _ _ h => h) (by rfl) ?y41 (by assumption) ?_
 case y41 => intro w hSw; (try dsimp only at hSw); go_simp; try with_reducible rfl
 simp only [sE0, sE1]
 refine take_to 5 8 (bQ 11 55) (v := ?_) ops_23_1_5 rfl ops_23_1_ns (by kernel_rfl) (by kernel_rfl) (fun _ _ _ h => h) (by rfl) ?y51 (by assumption) ?_
 case y51 => intro w hSw; (try dsimp only at hSw); go_simp; try with_reducible rfl
 simp only [sE0, sE1]
 refine take_to 6 9 (bQ 11 119) (v := ?_) ops_23_1_6 rfl ops_23_1_ns (by kernel_rfl) (by kernel_rfl) (fun _ _ _ h => h) (by rfl) ?y61 (by assumption) ?_
 case y61 => intro w hSw; (try dsimp only at hSw); go_simp; try with_reducible rfl
 simp only [sE0, sE1]
 refine run_to 3 (bQ 11 127) ops_23_1_3 (by kernel_rfl) (by kernel_rfl) (by rfl) (fun K hK => ?_)
 go_simp
 refine (unless_calls _ _ _).mono ?_
 rintro e w' ⟨rfl, rfl⟩
 go_wp2_with fail
 refine hK.out _ _ ?_ (fun hHeld => ?_)
 ·(exact HS.out _ (by first | assumption | exact hHeld.1 | exact below_step hHeld.1 (by assumption) | exact below_step hHeld.1 (below_alloc _ _)))
 clear hK K
 try simp only [Act.put, sEt, sE0, sE1]
 refine run_to 7 (bQ 11 255) ops_23_1_7 (by kernel_rfl) (by kernel_rfl) (by rfl) (fun K hK => ?_)
 go_simp
 refine (each_calls 69 #[.pointer (some ⟨w.heap.size, 0, none⟩)] (enters_of Tryz.func69 (by kernel_rfl) rfl) (slF xs) xs.length 12 _ hn (fun V i h1 h2 => Hf.out _ V i hHeld.1 h1 h2)).mono ?_
 rintro e w' ⟨rfl, hb⟩
 go_wp2_with fail
 refine hK.out _ _ ?_ (fun hHeld => ?_)
 ·(exact HS.out _ (by first | assumption | exact hHeld.1 | exact below_step hHeld.1 (by assumption) | exact below_step hHeld.1 (below_alloc _ _)))
 clear hK K
 try simp only [Act.put, sEt, sE0, sE1]
 refine run_to 8 (bQ 11 511) ops_23_1_8 (by kernel_rfl) (by kernel_rfl) (by rfl) (fun K hK => ?_)
 go_simp
 refine hK.out _ _ ?_ (fun hHeld => ?_)
 ·(exact HS.out _ (by first | assumption | exact hHeld.1 | exact below_step hHeld.1 (by assumption) | exact below_step hHeld.1 (below_alloc _ _)))
 clear hK K
 try simp only [Act.put, sEt, sE0, sE1]
 refine run_to 9 (bQ 11 1023) ops_23_1_9 (by kernel_rfl) (by kernel_rfl) (by rfl) (fun K hK => ?_)
 go_simp
 refine (orE_calls _ 0 2 [unlessE (decide (0 < xs.length)) 8, eachE xs.length 12 (slF xs)] _ (by simp) (by exact nums2 _ _ _ _)).mono ?_
 rintro e w' ⟨rfl, rfl⟩
 go_wp2_with fail
 refine hK.out _ _ ?_ (fun hHeld => ?_)
 ·(exact HS.out _ (by first | assumption | exact hHeld.1 | exact below_step hHeld.1 (by assumption) | exact below_step hHeld.1 (below_alloc _ _)))
 clear hK K
 try simp only [Act.put, sEt, sE0, sE1]
 refine take_to 10 2 (bQ 11 2047) (v := ?_) ops_23_1_10 rfl ops_23_1_ns (by kernel_rfl) (by kernel_rfl) (fun _ _ _ h => h) (by rfl) ?y101 (by assumption) ?_
 case y101 => intro w hSw; (try dsimp only at hSw); go_simp; try with_reducible rfl
 simp only [sE0, sE1]
 refine wpAnyH_done (by kernel_rfl) ?_ _
 go_wp2_with fail
 go_ret
 exact ⟨ret_int Hr.out.symm, below_step hwW hHeld.1⟩
end Go.Proofs.YtfcaokpadodijaaGreat
/- ScorersFault: the reference's way comes to the same. -/
namespace Go.Proofs.YtfcaokpadodijaaGreat
open Go.RowKit

def lastC (xs : List ScD) (k : Nat) : ByteArray := if k = 0 then ⟨#[]⟩ else (scAt xs (k - 1)).who
theorem sc_name {xs : List ScD} {k : Nat} {c : ScD} (h : xs[k]? = some c) (hn : keyB c.who = false) : scF xs k = 5 := by
 unfold scF
 rw [scAt_some h, hn]
 simp [unlessE, firstE]
theorem sc_ord {xs : List ScD} {k : Nat} (h : keyB (scAt xs k).who = true) : ltS (lastC xs k) (scAt xs k).who = (decide (k = 0) || ltS (scAt xs (k - 1)).who (scAt xs k).who) := by
 unfold lastC
 by_cases h0 : k = 0
 ·subst h0; simp [lt_empty h]
 ·simp [h0]
theorem sc_order {xs : List ScD} {k : Nat} {c : ScD} (h : xs[k]? = some c) (hn : keyB c.who = true) (ho : ltS (lastC xs k) c.who = false) : scF xs k = 7 := by
 have h2 := sc_ord (xs := xs) (k := k) (by rw [scAt_some h]; exact hn)
 rw [scAt_some h, ho] at h2
 unfold scF
 rw [scAt_some h, ← h2, hn]
 simp [unlessE, firstE]
theorem sc_rest {xs : List ScD} {k : Nat} {c : ScD} (h : xs[k]? = some c) (hn : keyB c.who = true) (ho : ltS (lastC xs k) c.who = true) : scF xs k = firstE [lfE true c.pos, wrongF c.num c.den 10000] := by
 have h2 := sc_ord (xs := xs) (k := k) (by rw [scAt_some h]; exact hn)
 rw [scAt_some h, ho] at h2
 unfold scF
 rw [scAt_some h, ← h2, hn, poE_eq]
 simp [unlessE, firstE]
set_option maxRecDepth 100000 in
set_option maxHeartbeats 8000000 in
theorem scorersFault_calls (lo : Nat) (v : Value) (xs : List ScD) (w : World) (hR : Scs w lo v xs) (hs : ∀ c ∈ xs, SmallSc c) (hn : xs.length ≤ 1000000) :
  Calls Tryz.prog 14 #[v] w (IntBelow (chkSc xs) w) := by
 have hat := scs_at hR
 obtain ⟨ra, rc, hv⟩ := NRows.shape hR
 have Hs := Lib.hid hs
 have Hat := Lib.hid hat
 rw [hv] at Hat ⊢
 clear hs hR hat hv
 by_cases hm : xs.length ≤ 20
 ·have Hm := Lib.hid (show (xs.length : Int) ≤ 20 by omega)
  go_enter Tryz.func14, Tryz.ntmps14
  go_wp2_with fail
  go_loopw [3, 13] (fun last i wr => ∃ k : Nat, k ≤ xs.length ∧ i = .int .i64 k ∧ last = .string (lastC xs k) ∧ Hid (∀ i, i < k → scF xs i = 0) ∧ Below w.heap.size w wr) (fun _ i _ => xs.length - (intOf i).toNat)
  case atStart => exact ⟨0, Nat.zero_le _, rfl, rfl, Lib.hid (fun i hi => by omega), Below.refl _ _⟩
  case round =>
   obtain ⟨k, hk, rfl, rfl, H0, hb⟩ := hrel
   by_cases hlt : k < xs.length
   ·obtain ⟨c, hc⟩ : ∃ c, xs[k]? = some c := ⟨xs[k], List.getElem?_eq_getElem hlt⟩
    have Hlast := Lib.hid (show lastC xs (k + 1) = c.who by unfold lastC; rw [if_neg (by omega), Nat.add_sub_cancel, scAt_some hc])
    obtain ⟨s1, s2, s3, s4, s5⟩ := Hs.out c (List.mem_of_getElem? hc)
    have S4 := Lib.hid s4
    have S5 := Lib.hid s5
    have Hnm := Lib.hid (fun h => sc_name hc h)
    have Hor := Lib.hid (fun h1 h2 => sc_order hc h1 h2)
    have Hre := Lib.hid (fun h1 h2 => sc_rest hc h1 h2)
    have Hhit := Lib.hid (fun (h : scF xs k ≠ 0) => (show chkSc xs = scF xs k from eachE_hit Hm.out hlt H0.out h))
    have Hnext := Lib.hid (fun (h : scF xs k = 0) i (hi : i < k + 1) => (show scF xs i = 0 by
     rcases Nat.lt_succ_iff_lt_or_eq.1 hi with h' | rfl
     ·exact H0.out i h'
     ·exact h))
    rcases Hat.out with ⟨_, h⟩ | ⟨g, off, cap, e, _, hg, _, hcell⟩
    ·rw [h] at hlt; simp at hlt
    simp only [Value.slice.injEq] at e
    obtain ⟨rfl, -, rfl⟩ := e
    obtain ⟨pv, q0, q1, q2, q3, q4, hpv⟩ := hcell k c hc
    obtain ⟨pa, pc, rfl⟩ := strs_shape hpv
    have p0 := below_cell hb q0
    have p1 := below_cell hb q1
    have p2 := below_cell hb q2
    have p3 := below_cell hb q3
    have p4 := below_cell hb q4
    have HL := Lib.hid (fun w' (hb' : Below w.heap.size w w') => listFault_calls true lo _ c.pos w' (hpv.below hb') s3 (by omega))
    clear hc s2 s3 s4 s5 hcell q0 q1 q2 q3 q4 hpv
    go_upto_region 7 with fail
    obtain ⟨wA, hwA⟩ : ∃ wA, wA = wr.alloc (.cells #[.string c.who, .slice pa c.pos.length pc, .int .i64 c.num, .int .i64 c.den, .bool c.played] 77) := ⟨_, rfl⟩
    obtain ⟨X, hX⟩ : ∃ X, X = wr.heap.size := ⟨_, rfl⟩
    have hbA : Below w.heap.size w wA := by rw [hwA]; exact below_step hb (below_alloc wr _)
    have hx : wA.heap[X]? = some (.cells #[.string c.who, .slice pa c.pos.length pc, .int .i64 c.num, .int .i64 c.den, .bool c.played] 77 (0, 0)) := by rw [hwA, hX]; exact heap_alloc_new wr _
    rw [← hwA, ← hX]
    have x0 := cell_at hx 0 rfl
    have x1 := cell_at hx 1 rfl
    have x2 := cell_at hx 2 rfl
    have x3 := cell_at hx 3 rfl
    have Hx := Lib.hid hx
    have HbA := Lib.hid hbA
    clear hwA hX hbA hx hb p0 p1 p2 p3 p4
    cases hnm : keyB c.who
    ·have HN := Lib.hid (Hnm.out hnm)
     have HK := Lib.hid hnm
     clear hnm
     go_wp2_with fail
     refine (keyR_calls _ _ (by omega)).mono ?_
     rintro e w' ⟨rfl, rfl⟩
     rw [HK.out]
     go_wp2_with fail
     go_ret
     exact ⟨ret_int (by rw [Hhit.out (by rw [HN.out]; omega), HN.out]), HbA.out⟩
    ·have HK := Lib.hid hnm
     cases ho : ltS (lastC xs k) c.who
     ·have HO := Lib.hid (Hor.out hnm ho)
      have ho' : (Op.bytesLess c.who.toList (lastC xs k).toList || c.who.toList == (lastC xs k).toList) = true := by rw [leS_eq, ho]; rfl
      clear hnm ho
      go_wp2_with fail
      refine (keyR_calls _ _ (by omega)).mono ?_
      rintro e w' ⟨rfl, rfl⟩
      rw [HK.out]
      go_wp2_with fail
      go_ret
      exact ⟨ret_int (by rw [Hhit.out (by rw [HO.out]; omega), HO.out]), HbA.out⟩
     ·have HRE := Lib.hid (Hre.out hnm ho)
      have ho' : (Op.bytesLess c.who.toList (lastC xs k).toList || c.who.toList == (lastC xs k).toList) = false := by rw [leS_eq, ho]; rfl
      clear hnm ho
      go_wp2_with fail
      refine (keyR_calls _ _ (by omega)).mono ?_
      rintro e w' ⟨rfl, rfl⟩
      rw [HK.out]
      go_wp2_with fail
      refine (HL.out wA HbA.out).mono ?_
      rintro e w' ⟨rfl, rfl⟩
      by_cases hp : lfE true c.pos = 0
      ·have e1 : (lfE true c.pos != 0) = false := by simp [hp]
       have HRG := Lib.hid (show scF xs k = wrongF c.num c.den 10000 by rw [HRE.out, hp]; simp [firstE]; intro h; exact h.symm)
       have HC := Lib.hid (pointsFault_calls c.num c.den wA S4.out S5.out)
       clear hp
       unfold frV at HC
       go_wp2_with fail
       refine HC.out.mono ?_
       rintro e w' ⟨rfl, hb'⟩
       have hx' := cells_later Hx.out hb'
       have z0 := cell_at hx' 0 rfl
       have hb2 := below_step HbA.out hb'
       rw [← HRG.out]
       clear hx' hb'
       by_cases hz : scF xs k = 0
       ·have e2 : (scF xs k != 0) = false := by simp [hz]
        have HN := Lib.hid (Hnext.out hz)
        clear hz
        go_wp2_with fail
        go_roundw
        case rel => exact ⟨k + 1, by omega, by go_num, by rw [Hlast.out], HN, hb2⟩
        case measure => simp [intOf]; omega
       ·have e2 : (scF xs k != 0) = true := by simp [hz]
        have HN := Lib.hid (Hhit.out hz)
        clear hz
        go_wp2_with fail
        go_ret
        exact ⟨ret_int HN.out.symm, hb2⟩
      ·have e1 : (lfE true c.pos != 0) = true := by simp [hp]
       have HP := Lib.hid (show scF xs k = lfE true c.pos by rw [HRE.out]; simp [firstE, hp])
       have HZ := Lib.hid hp
       clear hp
       go_wp2_with fail
       go_ret
       exact ⟨ret_int (by rw [Hhit.out (by rw [HP.out]; exact HZ.out), HP.out]), HbA.out⟩
   ·obtain rfl : k = xs.length := by omega
    have HN := Lib.hid (show chkSc xs = 0 from eachE_none Hm.out H0.out)
    go_wp2_with fail
    go_ret
    exact ⟨ret_int HN.out.symm, hb⟩
 ·have HN := Lib.hid (show chkSc xs = 2 by unfold chkSc eachE; rw [if_pos (by omega)])
  go_enter Tryz.func14, Tryz.ntmps14
  go_wp2_with fail
  go_ret
  exact ⟨ret_int HN.out.symm, Below.refl _ _⟩
end Go.Proofs.YtfcaokpadodijaaGreat
/- What is wrong with slots, and then with scorers. -/
namespace Go.Proofs.YtfcaokpadodijaaGreat
open Go.RowKit

def sdE (ss : List SlD) (cs : List ScD) : Int := firstE [chkSl ss, chkSc cs]
set_option maxHeartbeats 1000000 in
theorem wrongSides_calls (lo lo' : Nat) (v u : Value) (ss : List SlD) (cs : List ScD) (w : World) (hS : Sls w lo v ss) (hs : ∀ c ∈ ss, SmallSl c) (hsn : ss.length ≤ 1000000) (hC : Scs w lo' u cs) (hc : ∀ c ∈ cs, SmallSc c) (hcn : cs.length ≤ 1000000) :
  Calls Tryz.prog 75 #[v, u] w (IntBelow (sdE ss cs) w) := by
 have C1 := Lib.hid (checkSlots_calls lo v ss w hS hs hsn)
 have C2 := fun w' (hb : Below w.heap.size w w') => Lib.hid (checkScorers_calls lo' u cs w' (NRows.below hC hb) hc hcn)
 obtain ⟨a, c, rfl⟩ := NRows.shape hS
 obtain ⟨a', c', rfl⟩ := NRows.shape hC
 clear hS hs hC hc
 go_enter Tryz.func75, Tryz.ntmps75
 go_wp2_with fail
 refine C1.out.mono ?_
 rintro e w1 ⟨rfl, hb1⟩
 go_wp2_with fail
 refine (C2 w1 hb1).out.mono ?_
 rintro e w2 ⟨rfl, hb2⟩
 go_wp2_with fail
 refine (orE_calls _ 0 2 [chkSl ss, chkSc cs] _ (by simp) (by exact nums2 _ _ _ _)).mono ?_
 rintro e w3 ⟨rfl, rfl⟩
 go_wp2_with fail
 go_ret
 exact ⟨rfl, below_step (below_step hb1 hb2) (below_alloc _ _)⟩
end Go.Proofs.YtfcaokpadodijaaGreat
/- Who suits a slot: the program's way and the reference's. -/
namespace Go.Proofs.YtfcaokpadodijaaGreat
open Go.RowKit

def IdxFirstS (p : ByteArray → Bool) (ks : List ByteArray) (w : World) (e : Ending) (w' : World) : Prop :=
 ((e = .returned (.int .i64 (-1)) ∧ ∀ k ∈ ks, p k = false) ∨ ∃ i k, e = .returned (.int .i64 ((i : Nat) : Int)) ∧ ks[i]? = some k ∧ p k = true ∧ ∀ j g, j < i → ks[j]? = some g → p g = false) ∧ Below w.heap.size w w'
set_option maxRecDepth 100000 in
set_option maxHeartbeats 1000000 in
theorem indexSF_calls (g : Nat) (caps : Array Value) (p : ByteArray → Bool) (lo : Nat) (v : Value) (ks : List ByteArray) (w : World) (hv : Strs w lo v ks) (eg : ∀ args w, (callFunc g args).run Tryz.prog w = .ok (.enter g args) w)
  (hp : ∀ (W : World) (k : ByteArray), k ∈ ks → Below w.heap.size w W → Calls Tryz.prog g (#[.string k] ++ caps) W (BoolIs (p k) W)) :
  Calls Tryz.prog 89 #[v, .func (.func g) #[] caps] w (IdxFirstS p ks w) := by
 have Hp := Lib.hid hp
 clear hp
 rcases strs_at hv with ⟨rfl, rfl⟩ | ⟨gg, off, cap, rfl, hlo, hg, hn, hcell⟩
 ·clear hv
  go_enter Tryz.func89, Tryz.ntmps89
  go_wp2_with fail
  refine wp_loop_rounds 1 ?_
  rw [rounds_succ]
  go_wp2_with fail
  go_ret
  exact ⟨.inl ⟨rfl, by simp⟩, Below.refl _ _⟩
 ·have Hc := Lib.hid hcell
  clear hv hcell
  go_enter Tryz.func89, Tryz.ntmps89
  go_wp2_with fail
  go_loopw [8] (fun i wr => ∃ k : Nat, k ≤ ks.length ∧ i = .int .i64 k ∧ Hid (∀ j g, j < k → ks[j]? = some g → p g = false) ∧ Below w.heap.size w wr) (fun i _ => ks.length - (intOf i).toNat)
  case atStart => exact ⟨0, Nat.zero_le _, rfl, Lib.hid fun _ _ h => by omega, Below.refl _ _⟩
  case round =>
   obtain ⟨k, hk, rfl, H0, hb⟩ := hrel
   by_cases hlt : k < ks.length
   ·obtain ⟨f, hf⟩ : ∃ f, ks[k]? = some f := ⟨ks[k], List.getElem?_eq_getElem hlt⟩
    have g0 := below_cell hb (Hc.out k f hf)
    have Hf := Lib.hid hf
    clear hf
    go_wp2_with fail
    refine (Hp.out _ f (List.mem_of_getElem? Hf.out) hb).mono ?_
    rintro e w1 ⟨rfl, hb1⟩
    have hb2 := below_step hb hb1
    clear g0
    cases hpf : p f
    ·have H1 : Hid (∀ j g, j < k + 1 → ks[j]? = some g → p g = false) := Lib.hid fun j g hj hg' => by
      rcases Nat.lt_succ_iff_lt_or_eq.1 hj with h | rfl
      ·exact H0.out j g h hg'
      ·rw [Hf.out] at hg'; cases hg'; exact hpf
     clear hpf
     go_wp2_with fail
     go_roundw
     case rel => exact ⟨k + 1, by omega, by go_num, H1, hb2⟩
     case measure => simp [intOf]; omega
    ·have Hq := Lib.hid hpf
     clear hpf
     go_wp2_with fail
     go_ret
     exact ⟨.inr ⟨k, f, rfl, Hf.out, Hq.out, H0.out⟩, hb2⟩
   ·obtain rfl : k = ks.length := by omega
    go_wp2_with fail
    go_ret
    refine ⟨.inl ⟨rfl, fun f hf => ?_⟩, hb⟩
    obtain ⟨i, hi⟩ := List.getElem?_of_mem hf
    exact H0.out i f (List.getElem?_eq_some_iff.1 hi).1 hi
theorem containsSF_calls (g : Nat) (caps : Array Value) (p : ByteArray → Bool) (lo : Nat) (v : Value) (ks : List ByteArray) (w : World) (hv : Strs w lo v ks) (eg : ∀ args w, (callFunc g args).run Tryz.prog w = .ok (.enter g args) w)
  (hp : ∀ (W : World) (k : ByteArray), k ∈ ks → Below w.heap.size w W → Calls Tryz.prog g (#[.string k] ++ caps) W (BoolIs (p k) W)) :
  Calls Tryz.prog 43 #[v, .func (.func g) #[] caps] w (BoolIs (ks.any p) w) := by
 have C := Lib.hid (indexSF_calls g caps p lo v ks w hv eg hp)
 obtain ⟨a, c, rfl⟩ := strs_shape hv
 clear hv hp eg
 go_enter Tryz.func43, Tryz.ntmps43
 go_wp2_with fail
 refine C.out.mono ?_
 rintro e w1 ⟨⟨rfl, h0⟩ | ⟨i, f, rfl, hf, hpf, _⟩, hb⟩
 ·have hr : ks.any p = false := by rw [List.any_eq_false]; intro x hx; rw [h0 x hx]; simp
  clear C h0
  go_wp2_with fail
  go_ret
  exact ⟨ret_bool (by rw [hr]), hb⟩
 ·have hr : ks.any p = true := List.any_eq_true.2 ⟨f, List.mem_of_getElem? hf, hpf⟩
  clear C hf hpf
  go_wp2_with fail
  go_ret
  exact ⟨ret_bool (by rw [hr]), hb⟩
def slV (s : SlD) (x : Value) : Value := .agg #[.string s.key, x]
def scV (c : ScD) (x : Value) : Value := .agg #[.string c.who, x, .int .i64 c.num, .int .i64 c.den, .bool c.played]
/-- Has a scorer one of the positions of a slot? -/
def fitB (s : SlD) (c : ScD) : Bool := s.pos.any fun p => cnS c.pos p
def suitB (c : ScD) (s : SlD) : Bool := c.pos.any fun p => cnS s.pos p
theorem cnS_iff {ks : List ByteArray} {x : ByteArray} : cnS ks x = true ↔ x ∈ ks := by
 exact Lib.containsS_iff ks x
theorem suit_fit (c : ScD) (s : SlD) : suitB c s = fitB s c := by
 rw [Bool.eq_iff_iff]
 unfold suitB fitB
 simp only [List.any_eq_true, cnS_iff]
 constructor
 ·rintro ⟨p, h1, h2⟩; exact ⟨p, h2, h1⟩
 ·rintro ⟨p, h1, h2⟩; exact ⟨p, h2, h1⟩
theorem suits1_calls (lo : Nat) (pv : Value) (s : SlD) (k : ByteArray) (X : Nat) (w : World) (hK : Strs w lo pv s.pos) (hX : w.cell? ⟨X, 1, none⟩ = some pv) :
  Calls Tryz.prog 117 #[.string k, .pointer (some ⟨X, 0, none⟩)] w (BoolIs (cnS s.pos k) w) := by
 have C := Lib.hid (contains_calls lo pv s.pos k w hK)
 obtain ⟨a, c, rfl⟩ := strs_shape hK
 clear hK
 go_enter Tryz.func117, Tryz.ntmps117
 go_wp2_with fail
 refine C.out.mono ?_
 rintro e w1 ⟨rfl, rfl⟩
 go_wp2_with fail
 go_ret
 exact ⟨rfl, Below.refl _ _⟩
theorem fit1_calls (lo : Nat) (pv : Value) (c : ScD) (k : ByteArray) (X : Nat) (w : World) (hK : Strs w lo pv c.pos) (hX : w.cell? ⟨X, 1, none⟩ = some pv) :
  Calls Tryz.prog 110 #[.string k, .pointer (some ⟨X, 0, none⟩)] w (BoolIs (cnS c.pos k) w) := by
 have C := Lib.hid (contains_calls lo pv c.pos k w hK)
 obtain ⟨a, c, rfl⟩ := strs_shape hK
 clear hK
 go_enter Tryz.func110, Tryz.ntmps110
 go_wp2_with fail
 refine C.out.mono ?_
 rintro e w1 ⟨rfl, rfl⟩
 go_wp2_with fail
 go_ret
 exact ⟨rfl, Below.refl _ _⟩
set_option maxHeartbeats 1000000 in
theorem suits_calls (lo lo' : Nat) (cv sv : Value) (c : ScD) (s : SlD) (w : World) (hc : Strs w lo cv c.pos) (hs : Strs w lo' sv s.pos) :
  Calls Tryz.prog 77 #[scV c cv, slV s sv] w (BoolIs (suitB c s) w) := by
 obtain ⟨W, hW⟩ : ∃ W, W = (w.alloc (.cells #[.string c.who, cv, .int .i64 c.num, .int .i64 c.den, .bool c.played] 77)).alloc (.cells #[.string s.key, sv] 72) := ⟨_, rfl⟩
 have hb0 : Below w.heap.size w W := by rw [hW]; exact (below_alloc w _).trans ((below_alloc _ _).mono (by simp))
 have x1 : W.cell? ⟨w.heap.size, 1, none⟩ = some cv := by rw [hW]; exact cell_at (heap_al (heap_alloc_new w _) _) 1 rfl
 have y1 : W.cell? ⟨w.heap.size + 1, 1, none⟩ = some sv := by
  have := heap_alloc_new (w.alloc (.cells #[.string c.who, cv, .int .i64 c.num, .int .i64 c.den, .bool c.played] 77)) (.cells #[.string s.key, sv] 72)
  rw [World.size_alloc] at this
  rw [hW]; exact cell_at this 1 rfl
 have C := Lib.hid (containsSF_calls 117 #[.pointer (some ⟨w.heap.size + 1, 0, none⟩)] (fun p => cnS s.pos p) lo cv c.pos W (hc.below hb0) (by intro args w; go_simp) (fun V k _ hb => suits1_calls lo' sv s k (w.heap.size + 1) V ((hs.below hb0).below hb) (below_cell hb y1)))
 have HW := Lib.hid hW
 obtain ⟨a, cc, rfl⟩ := strs_shape hc
 obtain ⟨a', cc', rfl⟩ := strs_shape hs
 unfold scV slV
 clear hc hs hW
 go_enter Tryz.func77, Tryz.ntmps77
 go_upto_region 1 with fail
 rw [← HW.out]
 clear HW
 go_wp2_with fail
 refine C.out.mono ?_
 rintro e w1 ⟨rfl, hb⟩
 clear C
 go_wp2_with fail
 go_ret
 exact ⟨rfl, below_step hb0 hb⟩
set_option maxHeartbeats 1000000 in
theorem fit_calls (lo lo' : Nat) (cv sv : Value) (c : ScD) (s : SlD) (w : World) (hc : Strs w lo cv c.pos) (hs : Strs w lo' sv s.pos) :
  Calls Tryz.prog 61 #[slV s sv, scV c cv] w (BoolIs (fitB s c) w) := by
 obtain ⟨W, hW⟩ : ∃ W, W = (w.alloc (.cells #[.string s.key, sv] 72)).alloc (.cells #[.string c.who, cv, .int .i64 c.num, .int .i64 c.den, .bool c.played] 77) := ⟨_, rfl⟩
 have hb0 : Below w.heap.size w W := by rw [hW]; exact (below_alloc w _).trans ((below_alloc _ _).mono (by simp))
 have x1 : W.cell? ⟨w.heap.size, 1, none⟩ = some sv := by rw [hW]; exact cell_at (heap_al (heap_alloc_new w _) _) 1 rfl
 have y1 : W.cell? ⟨w.heap.size + 1, 1, none⟩ = some cv := by
  have := heap_alloc_new (w.alloc (.cells #[.string s.key, sv] 72)) (.cells #[.string c.who, cv, .int .i64 c.num, .int .i64 c.den, .bool c.played] 77)
  rw [World.size_alloc] at this
  rw [hW]; exact cell_at this 1 rfl
 have C := Lib.hid (containsSF_calls 110 #[.pointer (some ⟨w.heap.size + 1, 0, none⟩)] (fun p => cnS c.pos p) lo' sv s.pos W (hs.below hb0) (by intro args w; go_simp) (fun V k _ hb => fit1_calls lo cv c k (w.heap.size + 1) V ((hc.below hb0).below hb) (below_cell hb y1)))
 have HW := Lib.hid hW
 obtain ⟨a, cc, rfl⟩ := strs_shape hc
 obtain ⟨a', cc', rfl⟩ := strs_shape hs
 unfold scV slV
 clear hc hs hW
 go_enter Tryz.func61, Tryz.ntmps61
 go_upto_region 1 with fail
 rw [← HW.out]
 clear HW
 go_wp2_with fail
 refine C.out.mono ?_
 rintro e w1 ⟨rfl, hb⟩
 clear C
 go_wp2_with fail
 go_ret
 exact ⟨rfl, below_step hb0 hb⟩
end Go.Proofs.YtfcaokpadodijaaGreat
/- CheckFills. -/
namespace Go.Proofs.YtfcaokpadodijaaGreat
open Go.RowKit

def fiAt (fs : List FiD) (i : Nat) : FiD := fs[i]?.getD ⟨⟨#[]⟩, ⟨#[]⟩⟩
theorem fiAt_some {fs : List FiD} {i : Nat} {f : FiD} (h : fs[i]? = some f) : fiAt fs i = f := by simp [fiAt, h]
/-- What is wrong with fill i. -/
def chF (ss : List SlD) (cs : List ScD) (fs : List FiD) (i : Nat) : Int :=
 if beqS (fiAt fs i).slot (slAt ss i).key = false then 8 else if (fiAt fs i).who.size = 0 then 0 else
  firstE [unlessE (knownB (cs.map ScD.who) (fiAt fs i).who) 8, unlessE (!inF (fs.take i) (fiAt fs i).who) 6, unlessE (suitB (fndC cs (fiAt fs i).who) (slAt ss i)) 10]
def ch0 (ss : List SlD) (cs : List ScD) (fs : List FiD) : Int := firstE [sdE ss cs, unlessE ((fs.length : Int) == (ss.length : Int)) 3]
def chkFi (ss : List SlD) (cs : List ScD) (fs : List FiD) : Int := if ch0 ss cs fs = 0 then eachE fs.length fs.length (chF ss cs fs) else ch0 ss cs fs
theorem fis_take {w : World} {lo g off n c m : Nat} {fs : List FiD} (h : Fis w lo (.slice (some ⟨g, off, none⟩) n c) fs) (hn : n = fs.length) (hm : m ≤ n) : Fis w lo (.slice (some ⟨g, off, none⟩) m c) (fs.take m) := by
 have := rows_take h (m := m) (by simpa using hn) hm
 rw [← List.map_take] at this
 exact this
def ops_76_2 : Array Go.Oper := #[
 ⟨some 13, .fieldAddr 49 (.tmp 6) 0, 0, "lineup.go:46", #[], none⟩,
 ⟨some 14, .load 9 (.tmp 13), 9, "lineup.go:46", #[⟨0, .data⟩], none⟩,
 ⟨some 15, .load 26 (.tmp 2), 26, "lineup.go:46", #[], none⟩,
 ⟨some 16, .move (.tmp 0), 3, "lineup.go:46", #[], none⟩,
 ⟨some 17, .indexAddr 26 (.tmp 15) (.tmp 16), 0, "lineup.go:46", #[⟨2, .data⟩, ⟨3, .data⟩], none⟩,
 ⟨some 18, .fieldAddr 72 (.tmp 17) 0, 0, "lineup.go:46", #[⟨4, .data⟩], none⟩,
 ⟨some 19, .load 9 (.tmp 18), 9, "lineup.go:46", #[⟨5, .data⟩], none⟩,
 ⟨some 20, .binOp .neq 9 (.tmp 14) (.tmp 19) 9, 4, "lineup.go:46", #[⟨1, .data⟩, ⟨6, .data⟩], none⟩]
theorem ops_76_2_0 : ops_76_2[0]? = some (⟨some 13, .fieldAddr 49 (.tmp 6) 0, 0, "lineup.go:46", #[], none⟩ : Go.Oper) := rfl
theorem ops_76_2_1 : ops_76_2[1]? = some (⟨some 14, .load 9 (.tmp 13), 9, "lineup.go:46", #[⟨0, .data⟩], none⟩ : Go.Oper) := rfl
theorem ops_76_2_2 : ops_76_2[2]? = some (⟨some 15, .load 26 (.tmp 2), 26, "lineup.go:46", #[], none⟩ : Go.Oper) := rfl
theorem ops_76_2_3 : ops_76_2[3]? = some (⟨some 16, .move (.tmp 0), 3, "lineup.go:46", #[], none⟩ : Go.Oper) := rfl
theorem ops_76_2_4 : ops_76_2[4]? = some (⟨some 17, .indexAddr 26 (.tmp 15) (.tmp 16), 0, "lineup.go:46", #[⟨2, .data⟩, ⟨3, .data⟩], none⟩ : Go.Oper) := rfl
theorem ops_76_2_5 : ops_76_2[5]? = some (⟨some 18, .fieldAddr 72 (.tmp 17) 0, 0, "lineup.go:46", #[⟨4, .data⟩], none⟩ : Go.Oper) := rfl
theorem ops_76_2_6 : ops_76_2[6]? = some (⟨some 19, .load 9 (.tmp 18), 9, "lineup.go:46", #[⟨5, .data⟩], none⟩ : Go.Oper) := rfl
theorem ops_76_2_7 : ops_76_2[7]? = some (⟨some 20, .binOp .neq 9 (.tmp 14) (.tmp 19) 9, 4, "lineup.go:46", #[⟨1, .data⟩, ⟨6, .data⟩], none⟩ : Go.Oper) := rfl
theorem ops_76_2_ns : Go.Region.noSelect ops_76_2 = true := by kernel_rfl
def ops_76_7 : Array Go.Oper := #[
 ⟨some 31, .move (.tmp 8), 4, "lineup.go:53", #[], none⟩,
 ⟨some 32, .call { callee := .value (.func 47), args := #[.tmp 31, .const (.int .i64 8)], argTypes := #[4, 35] }, 35, "lineup.go:54", #[⟨0, .data⟩], none⟩,
 ⟨some 33, .load 30 (.tmp 1), 30, "lineup.go:53", #[], none⟩,
 ⟨some 34, .move (.tmp 0), 3, "lineup.go:53", #[], none⟩,
 ⟨some 35, .slice 30 (.tmp 33) none (some (.tmp 34)) none, 30, "lineup.go:53", #[⟨2, .data⟩, ⟨3, .data⟩], none⟩,
 ⟨some 36, .fieldAddr 49 (.tmp 6) 1, 0, "lineup.go:53", #[], none⟩,
 ⟨some 37, .load 9 (.tmp 36), 9, "lineup.go:53", #[⟨5, .data⟩], none⟩,
 ⟨some 38, .call { callee := .value (.func 48), args := #[.tmp 35, .tmp 37], argTypes := #[30, 9] }, 4, "lineup.go:55", #[⟨4, .data⟩, ⟨6, .data⟩, ⟨1, .chain⟩], none⟩,
 ⟨some 39, .unOp .not 4 (.tmp 38), 4, "lineup.go:53", #[⟨7, .data⟩], none⟩,
 ⟨some 40, .call { callee := .value (.func 47), args := #[.tmp 39, .const (.int .i64 6)], argTypes := #[4, 35] }, 35, "lineup.go:55", #[⟨8, .data⟩, ⟨7, .chain⟩], none⟩,
 ⟨some 41, .load 77 (.tmp 7), 77, "lineup.go:53", #[], none⟩,
 ⟨some 42, .load 26 (.tmp 2), 26, "lineup.go:53", #[], none⟩,
 ⟨some 43, .move (.tmp 0), 3, "lineup.go:53", #[], none⟩,
 ⟨some 44, .indexAddr 26 (.tmp 42) (.tmp 43), 0, "lineup.go:53", #[⟨11, .data⟩, ⟨12, .data⟩], none⟩,
 ⟨some 45, .load 72 (.tmp 44), 72, "lineup.go:53", #[⟨13, .data⟩], none⟩,
 ⟨some 46, .call { callee := .value (.func 77), args := #[.tmp 41, .tmp 45], argTypes := #[77, 72] }, 4, "lineup.go:56", #[⟨10, .data⟩, ⟨14, .data⟩, ⟨9, .chain⟩], none⟩,
 ⟨some 47, .call { callee := .value (.func 47), args := #[.tmp 46, .const (.int .i64 10)], argTypes := #[4, 35] }, 35, "lineup.go:56", #[⟨15, .data⟩, ⟨15, .chain⟩], none⟩,
 ⟨some 48, .buildSlice 90 3 #[(0, .tmp 32), (1, .tmp 40), (2, .tmp 47)], 90, "lineup.go:53", #[⟨1, .data⟩, ⟨9, .data⟩, ⟨16, .data⟩], none⟩,
 ⟨some 49, .call { callee := .value (.func 46), args := #[.tmp 48], argTypes := #[90] }, 35, "lineup.go:53", #[⟨17, .data⟩, ⟨16, .chain⟩], none⟩,
 ⟨some 5, .assign (.tmp 49), 35, "lineup.go:53", #[⟨18, .data⟩, ⟨18, .chain⟩, ⟨0, .phase⟩, ⟨1, .phase⟩, ⟨2, .phase⟩, ⟨3, .phase⟩, ⟨4, .phase⟩, ⟨5, .phase⟩, ⟨6, .phase⟩, ⟨7, .phase⟩, ⟨8, .phase⟩, ⟨9, .phase⟩, ⟨10, .phase⟩, ⟨11, .phase⟩, ⟨12, .phase⟩, ⟨13, .phase⟩, ⟨14, .phase⟩, ⟨15, .phase⟩, ⟨16, .phase⟩, ⟨17, .phase⟩, ⟨18, .phase⟩], none⟩]
theorem ops_76_7_0 : ops_76_7[0]? = some (⟨some 31, .move (.tmp 8), 4, "lineup.go:53", #[], none⟩ : Go.Oper) := rfl
theorem ops_76_7_1 : ops_76_7[1]? = some (⟨some 32, .call { callee := .value (.func 47), args := #[.tmp 31, .const (.int .i64 8)], argTypes := #[4, 35] }, 35, "lineup.go:54", #[⟨0, .data⟩], none⟩ : Go.Oper) := rfl
theorem ops_76_7_2 : ops_76_7[2]? = some (⟨some 33, .load 30 (.tmp 1), 30, "lineup.go:53", #[], none⟩ : Go.Oper) := rfl
theorem ops_76_7_3 : ops_76_7[3]? = some (⟨some 34, .move (.tmp 0), 3, "lineup.go:53", #[], none⟩ : Go.Oper) := rfl
theorem ops_76_7_4 : ops_76_7[4]? = some (⟨some 35, .slice 30 (.tmp 33) none (some (.tmp 34)) none, 30, "lineup.go:53", #[⟨2, .data⟩, ⟨3, .data⟩], none⟩ : Go.Oper) := rfl
theorem ops_76_7_5 : ops_76_7[5]? = some (⟨some 36, .fieldAddr 49 (.tmp 6) 1, 0, "lineup.go:53", #[], none⟩ : Go.Oper) := rfl
theorem ops_76_7_6 : ops_76_7[6]? = some (⟨some 37, .load 9 (.tmp 36), 9, "lineup.go:53", #[⟨5, .data⟩], none⟩ : Go.Oper) := rfl
theorem ops_76_7_7 : ops_76_7[7]? = some (⟨some 38, .call { callee := .value (.func 48), args := #[.tmp 35, .tmp 37], argTypes := #[30, 9] }, 4, "lineup.go:55", #[⟨4, .data⟩, ⟨6, .data⟩, ⟨1, .chain⟩], none⟩ : Go.Oper) := rfl
theorem ops_76_7_8 : ops_76_7[8]? = some (⟨some 39, .unOp .not 4 (.tmp 38), 4, "lineup.go:53", #[⟨7, .data⟩], none⟩ : Go.Oper) := rfl
theorem ops_76_7_9 : ops_76_7[9]? = some (⟨some 40, .call { callee := .value (.func 47), args := #[.tmp 39, .const (.int .i64 6)], argTypes := #[4, 35] }, 35, "lineup.go:55", #[⟨8, .data⟩, ⟨7, .chain⟩], none⟩ : Go.Oper) := rfl
theorem ops_76_7_10 : ops_76_7[10]? = some (⟨some 41, .load 77 (.tmp 7), 77, "lineup.go:53", #[], none⟩ : Go.Oper) := rfl
theorem ops_76_7_11 : ops_76_7[11]? = some (⟨some 42, .load 26 (.tmp 2), 26, "lineup.go:53", #[], none⟩ : Go.Oper) := rfl
theorem ops_76_7_12 : ops_76_7[12]? = some (⟨some 43, .move (.tmp 0), 3, "lineup.go:53", #[], none⟩ : Go.Oper) := rfl
theorem ops_76_7_13 : ops_76_7[13]? = some (⟨some 44, .indexAddr 26 (.tmp 42) (.tmp 43), 0, "lineup.go:53", #[⟨11, .data⟩, ⟨12, .data⟩], none⟩ : Go.Oper) := rfl
theorem ops_76_7_14 : ops_76_7[14]? = some (⟨some 45, .load 72 (.tmp 44), 72, "lineup.go:53", #[⟨13, .data⟩], none⟩ : Go.Oper) := rfl
theorem ops_76_7_15 : ops_76_7[15]? = some (⟨some 46, .call { callee := .value (.func 77), args := #[.tmp 41, .tmp 45], argTypes := #[77, 72] }, 4, "lineup.go:56", #[⟨10, .data⟩, ⟨14, .data⟩, ⟨9, .chain⟩], none⟩ : Go.Oper) := rfl
theorem ops_76_7_16 : ops_76_7[16]? = some (⟨some 47, .call { callee := .value (.func 47), args := #[.tmp 46, .const (.int .i64 10)], argTypes := #[4, 35] }, 35, "lineup.go:56", #[⟨15, .data⟩, ⟨15, .chain⟩], none⟩ : Go.Oper) := rfl
theorem ops_76_7_17 : ops_76_7[17]? = some (⟨some 48, .buildSlice 90 3 #[(0, .tmp 32), (1, .tmp 40), (2, .tmp 47)], 90, "lineup.go:53", #[⟨1, .data⟩, ⟨9, .data⟩, ⟨16, .data⟩], none⟩ : Go.Oper) := rfl
theorem ops_76_7_18 : ops_76_7[18]? = some (⟨some 49, .call { callee := .value (.func 46), args := #[.tmp 48], argTypes := #[90] }, 35, "lineup.go:53", #[⟨17, .data⟩, ⟨16, .chain⟩], none⟩ : Go.Oper) := rfl
theorem ops_76_7_19 : ops_76_7[19]? = some (⟨some 5, .assign (.tmp 49), 35, "lineup.go:53", #[⟨18, .data⟩, ⟨18, .chain⟩, ⟨0, .phase⟩, ⟨1, .phase⟩, ⟨2, .phase⟩, ⟨3, .phase⟩, ⟨4, .phase⟩, ⟨5, .phase⟩, ⟨6, .phase⟩, ⟨7, .phase⟩, ⟨8, .phase⟩, ⟨9, .phase⟩, ⟨10, .phase⟩, ⟨11, .phase⟩, ⟨12, .phase⟩, ⟨13, .phase⟩, ⟨14, .phase⟩, ⟨15, .phase⟩, ⟨16, .phase⟩, ⟨17, .phase⟩, ⟨18, .phase⟩], none⟩ : Go.Oper) := rfl
theorem ops_76_7_ns : Go.Region.noSelect ops_76_7 = true := by kernel_rfl
def ops_25_1 : Array Go.Oper := #[
 ⟨some 8, .load 26 (.tmp 3), 26, "lineup.go:41", #[], none⟩,
 ⟨some 9, .load 28 (.tmp 4), 28, "lineup.go:41", #[], none⟩,
 ⟨some 10, .call { callee := .value (.func 75), args := #[.tmp 8, .tmp 9], argTypes := #[26, 28] }, 35, "lineup.go:41", #[⟨0, .data⟩, ⟨1, .data⟩], none⟩,
 ⟨some 11, .load 30 (.tmp 5), 30, "lineup.go:41", #[], none⟩,
 ⟨some 12, .call { callee := .builtin .len, args := #[.tmp 11], argTypes := #[30] }, 3, "lineup.go:41", #[⟨3, .data⟩], none⟩,
 ⟨some 13, .load 26 (.tmp 3), 26, "lineup.go:41", #[], none⟩,
 ⟨some 14, .call { callee := .builtin .len, args := #[.tmp 13], argTypes := #[26] }, 3, "lineup.go:41", #[⟨5, .data⟩], none⟩,
 ⟨some 15, .binOp .eql 3 (.tmp 12) (.tmp 14) 3, 4, "lineup.go:41", #[⟨4, .data⟩, ⟨6, .data⟩], none⟩,
 ⟨some 16, .call { callee := .value (.func 47), args := #[.tmp 15, .const (.int .i64 3)], argTypes := #[4, 35] }, 35, "lineup.go:41", #[⟨7, .data⟩, ⟨2, .chain⟩], none⟩,
 ⟨some 17, .buildSlice 90 2 #[(0, .tmp 10), (1, .tmp 16)], 90, "lineup.go:41", #[⟨2, .data⟩, ⟨8, .data⟩], none⟩,
 ⟨some 18, .call { callee := .value (.func 46), args := #[.tmp 17], argTypes := #[90] }, 35, "lineup.go:41", #[⟨9, .data⟩, ⟨8, .chain⟩], none⟩,
 ⟨some 7, .assign (.tmp 18), 35, "lineup.go:41", #[⟨10, .data⟩, ⟨10, .chain⟩, ⟨0, .phase⟩, ⟨1, .phase⟩, ⟨2, .phase⟩, ⟨3, .phase⟩, ⟨4, .phase⟩, ⟨5, .phase⟩, ⟨6, .phase⟩, ⟨7, .phase⟩, ⟨8, .phase⟩, ⟨9, .phase⟩, ⟨10, .phase⟩], none⟩]
theorem ops_25_1_0 : ops_25_1[0]? = some (⟨some 8, .load 26 (.tmp 3), 26, "lineup.go:41", #[], none⟩ : Go.Oper) := rfl
theorem ops_25_1_1 : ops_25_1[1]? = some (⟨some 9, .load 28 (.tmp 4), 28, "lineup.go:41", #[], none⟩ : Go.Oper) := rfl
theorem ops_25_1_2 : ops_25_1[2]? = some (⟨some 10, .call { callee := .value (.func 75), args := #[.tmp 8, .tmp 9], argTypes := #[26, 28] }, 35, "lineup.go:41", #[⟨0, .data⟩, ⟨1, .data⟩], none⟩ : Go.Oper) := rfl
theorem ops_25_1_3 : ops_25_1[3]? = some (⟨some 11, .load 30 (.tmp 5), 30, "lineup.go:41", #[], none⟩ : Go.Oper) := rfl
theorem ops_25_1_4 : ops_25_1[4]? = some (⟨some 12, .call { callee := .builtin .len, args := #[.tmp 11], argTypes := #[30] }, 3, "lineup.go:41", #[⟨3, .data⟩], none⟩ : Go.Oper) := rfl
theorem ops_25_1_5 : ops_25_1[5]? = some (⟨some 13, .load 26 (.tmp 3), 26, "lineup.go:41", #[], none⟩ : Go.Oper) := rfl
theorem ops_25_1_6 : ops_25_1[6]? = some (⟨some 14, .call { callee := .builtin .len, args := #[.tmp 13], argTypes := #[26] }, 3, "lineup.go:41", #[⟨5, .data⟩], none⟩ : Go.Oper) := rfl
theorem ops_25_1_7 : ops_25_1[7]? = some (⟨some 15, .binOp .eql 3 (.tmp 12) (.tmp 14) 3, 4, "lineup.go:41", #[⟨4, .data⟩, ⟨6, .data⟩], none⟩ : Go.Oper) := rfl
theorem ops_25_1_8 : ops_25_1[8]? = some (⟨some 16, .call { callee := .value (.func 47), args := #[.tmp 15, .const (.int .i64 3)], argTypes := #[4, 35] }, 35, "lineup.go:41", #[⟨7, .data⟩, ⟨2, .chain⟩], none⟩ : Go.Oper) := rfl
theorem ops_25_1_9 : ops_25_1[9]? = some (⟨some 17, .buildSlice 90 2 #[(0, .tmp 10), (1, .tmp 16)], 90, "lineup.go:41", #[⟨2, .data⟩, ⟨8, .data⟩], none⟩ : Go.Oper) := rfl
theorem ops_25_1_10 : ops_25_1[10]? = some (⟨some 18, .call { callee := .value (.func 46), args := #[.tmp 17], argTypes := #[90] }, 35, "lineup.go:41", #[⟨9, .data⟩, ⟨8, .chain⟩], none⟩ : Go.Oper) := rfl
theorem ops_25_1_11 : ops_25_1[11]? = some (⟨some 7, .assign (.tmp 18), 35, "lineup.go:41", #[⟨10, .data⟩, ⟨10, .chain⟩, ⟨0, .phase⟩, ⟨1, .phase⟩, ⟨2, .phase⟩, ⟨3, .phase⟩, ⟨4, .phase⟩, ⟨5, .phase⟩, ⟨6, .phase⟩, ⟨7, .phase⟩, ⟨8, .phase⟩, ⟨9, .phase⟩, ⟨10, .phase⟩], none⟩ : Go.Oper) := rfl
theorem ops_25_1_ns : Go.Region.noSelect ops_25_1 = true := by kernel_rfl
set_option maxRecDepth 100000 in
set_option maxHeartbeats 16000000 in
theorem checkFills1_calls (b1 b2 b3 g off cap h hoff hcap i lo lo' lo3 : Nat) (u : Value) (ss : List SlD) (cs : List ScD) (fs : List FiD) (f : FiD) (s : SlD) (w : World) (hi : fs[i]? = some f) (hs : ss[i]? = some s) (hn : fs.length ≤ 1000000)
  (h1 : w.cell? ⟨b1, 0, none⟩ = some (.slice (some ⟨g, off, none⟩) fs.length cap)) (hF : Fis w lo3 (.slice (some ⟨g, off, none⟩) fs.length cap) fs)
  (h2 : w.cell? ⟨b2, 0, none⟩ = some (.slice (some ⟨h, hoff, none⟩) ss.length hcap)) (hS : Sls w lo' (.slice (some ⟨h, hoff, none⟩) ss.length hcap) ss)
  (h3 : w.cell? ⟨b3, 0, none⟩ = some u) (hC : Scs w lo u cs) (hlo : lo ≤ w.heap.size) :
  Calls Tryz.prog 76 #[.int .i64 (i : Int), .pointer (some ⟨b1, 0, none⟩), .pointer (some ⟨b2, 0, none⟩), .pointer (some ⟨b3, 0, none⟩)] w (IntBelow (chF ss cs fs i) w) := by
 have hlt : i < fs.length := (List.getElem?_eq_some_iff.1 hi).1
 have hls : i < ss.length := (List.getElem?_eq_some_iff.1 hs).1
 rcases fis_at hF with ⟨e, _⟩ | ⟨g', off', cap', e, _, _, _, hcell⟩
 ·cases e
 simp only [Value.slice.injEq, Option.some.injEq, Addr.mk.injEq, and_true, true_and] at e
 obtain ⟨⟨rfl, rfl⟩, rfl⟩ := e
 obtain ⟨f0, f1⟩ := hcell i f hi
 clear hcell
 rcases sls_at hS with ⟨e, _⟩ | ⟨g', off', cap', e, _, _, _, hcell⟩
 ·cases e
 simp only [Value.slice.injEq, Option.some.injEq, Addr.mk.injEq, and_true, true_and] at e
 obtain ⟨⟨rfl, rfl⟩, rfl⟩ := e
 obtain ⟨pv, s0, s1, hpv⟩ := hcell i s hs
 have Hpv := Lib.hid hpv
 obtain ⟨pa, pc, rfl⟩ := strs_shape hpv
 have hlt' : (i : Int) < (fs.length : Int) := by omega
 have hls' : (i : Int) < (ss.length : Int) := by omega
 have hfit : fs.length ≤ cap := by have := Rows.fits hF; simpa using this
 have hic : i ≤ cap := by omega
 have hil : i ≤ fs.length := by omega
 have HT := Lib.hid (fis_take hF (m := i) rfl (by omega))
 have HC := Lib.hid hC
 obtain ⟨a, c, rfl⟩ := NRows.shape hC
 have Hr := Lib.hid (show chF ss cs fs i = if beqS f.slot s.key = false then 8 else if f.who.size = 0 then 0 else firstE [unlessE (knownB (cs.map ScD.who) f.who) 8, unlessE (!inF (fs.take i) f.who) 6, unlessE (suitB (fndC cs f.who) s) 10] by unfold chF; rw [fiAt_some hi, slAt_some hs])
 generalize chF ss cs fs i = R at Hr ⊢
 obtain ⟨W, hW⟩ : ∃ W, W = w.alloc (.cells #[.string f.slot, .string f.who] 49) := ⟨_, rfl⟩
 have hwW : Below w.heap.size w W := by rw [hW]; exact below_alloc w _
 have hx : W.heap[w.heap.size]? = some (.cells #[.string f.slot, .string f.who] 49 (0, 0)) := by rw [hW]; exact heap_alloc_new w _
 have x0 := cell_at hx 0 rfl
 have x1 := cell_at hx 1 rfl
 have HS := Lib.hid (show ∀ w', Below W.heap.size W w' → (Below W.heap.size W w' ∧ w'.cell? ⟨b1, 0, none⟩ = some (.slice (some ⟨g, off, none⟩) fs.length cap) ∧ w'.cell? ⟨b2, 0, none⟩ = some (.slice (some ⟨h, hoff, none⟩) ss.length hcap) ∧ w'.cell? ⟨b3, 0, none⟩ = some (.slice a cs.length c) ∧ w'.cell? ⟨w.heap.size, 0, none⟩ = some (.string f.slot) ∧ w'.cell? ⟨w.heap.size, 1, none⟩ = some (.string f.who) ∧ w'.cell? ⟨h, hoff + i * 2, none⟩ = some (.string s.key) ∧ w'.cell? ⟨h, hoff + i * 2 + 1, none⟩ = some (.slice pa s.pos.length pc)) from fun w' hb => ⟨hb, below_cell hb (below_cell hwW h1), below_cell hb (below_cell hwW h2), below_cell hb (below_cell hwW h3), below_cell hb x0, below_cell hb x1, below_cell hb (below_cell hwW s0), below_cell hb (below_cell hwW s1)⟩)
 have hb0 := (Below.refl W.heap.size W).drew
 have e1 : (!(f.slot.toList == s.key.toList)) = !beqS f.slot s.key := rfl
 clear hC hF hS hi hs hcell h2 h3 s0 s1 hx x0 x1 hpv
 go_enter Tryz.func76, Tryz.ntmps76
 go_upto_region 2 with fail
 rw [← hW]
 clear hW h1 f0 f1
 show Code.wp _ (Code.region 2 ops_76_2 true) _ _ _
 refine region_start 8 (fun w' => Below W.heap.size W w' ∧ w'.cell? ⟨b1, 0, none⟩ = some (.slice (some ⟨g, off, none⟩) fs.length cap) ∧ w'.cell? ⟨b2, 0, none⟩ = some (.slice (some ⟨h, hoff, none⟩) ss.length hcap) ∧ w'.cell? ⟨b3, 0, none⟩ = some (.slice a cs.length c) ∧ w'.cell? ⟨w.heap.size, 0, none⟩ = some (.string f.slot) ∧ w'.cell? ⟨w.heap.size, 1, none⟩ = some (.string f.who) ∧ w'.cell? ⟨h, hoff + i * 2, none⟩ = some (.string s.key) ∧ w'.cell? ⟨h, hoff + i * 2 + 1, none⟩ = some (.slice pa s.pos.length pc)) (by kernel_rfl) rfl ?_ (fun hHeld => ?_)
 ·(exact HS.out _ (by first | assumption | exact hHeld.1 | exact below_step hHeld.1 (by assumption) | exact below_step hHeld.1 (below_alloc _ _)))
 refine take_to 0 13 (bQ 8 1) (v := ?_) ops_76_2_0 rfl ops_76_2_ns (by kernel_rfl) (by kernel_rfl) (fun _ _ _ h => h) (by rfl) ?y02 (by assumption) ?_
 case y02 => intro w hSw; (try dsimp only at hSw); go_simp; try with_reducible rfl
 simp only [sE0, sE1]
 refine take_to 1 14 (bQ 8 3) (v := ?_) ops_76_2_1 rfl ops_76_2_ns (by kernel_rfl) (by kernel_rfl) (fun _ _ _ h => h) (by rfl) ?y12 (by assumption) ?_
 case y12 => intro w hSw; (try dsimp only at hSw); go_simp; try with_reducible rfl
 simp only [sE0, sE1]
 refine take_to 2 15 (bQ 8 7) (v := ?_) ops_76_2_2 rfl ops_76_2_ns (by kernel_rfl) (by kernel_rfl) (fun _ _ _ h => h) (by rfl) ?y22 (by assumption) ?_
 case y22 => intro w hSw; (try dsimp only at hSw); go_simp; try with_reducible rfl
 simp only [sE0, sE1]
 refine take_to 3 16 (bQ 8 15) (v := ?_) ops_76_2_3 rfl ops_76_2_ns (by kernel_rfl) (by kernel_rfl) (fun _ _ _ h => h) (by rfl) ?y32 (by assumption) ?_
 case y32 => intro w hSw; (try dsimp only at hSw); go_simp; try with_reducible rfl
 simp only [sE0, sE1]
 refine take_to 4 17 (bQ 8 31) (v := ?_) ops_76_2_4 rfl ops_76_2_ns (by kernel_rfl) (by kernel_rfl) (fun _ _ _ h => h) (by rfl) ?y42 (by assumption) ?_
 case y42 => intro w hSw; (try dsimp only at hSw); go_simp; try with_reducible rfl
 simp only [sE0, sE1]
 refine take_to 5 18 (bQ 8 63) (v := ?_) ops_76_2_5 rfl ops_76_2_ns (by kernel_rfl) (by kernel_rfl) (fun _ _ _ h => h) (by rfl) ?y52 (by assumption) ?_
 case y52 => intro w hSw; (try dsimp only at hSw); go_simp; try with_reducible rfl
 simp only [sE0, sE1]
 refine take_to 6 19 (bQ 8 127) (v := ?_) ops_76_2_6 rfl ops_76_2_ns (by kernel_rfl) (by kernel_rfl) (fun _ _ _ h => h) (by rfl) ?y62 (by assumption) ?_
 case y62 => intro w hSw; (try dsimp only at hSw); go_simp; try with_reducible rfl
 simp only [sE0, sE1]
 refine take_to 7 20 (bQ 8 255) (v := ?_) ops_76_2_7 rfl ops_76_2_ns (by kernel_rfl) (by kernel_rfl) (fun _ _ _ h => h) (by rfl) ?y72 (by assumption) ?_
 case y72 => intro w hSw; (try dsimp only at hSw); go_simp; try with_reducible rfl
 simp only [sE0, sE1]
 refine wpAnyH_done (by kernel_rfl) ?_ _
 have hb1 := hHeld.1
 obtain ⟨-, d1, d2, d3, d4, d5, d6, d7⟩ := hHeld
 cases hq : beqS f.slot s.key
 ·rw [hq] at Hr
  rw [hq] at e1
  clear hq d1 d2 d3 d4 d5 d6 d7
  go_wp2_with fail
  go_ret
  exact ⟨ret_int (by rw [Hr.out]; rfl), below_step hwW hb1⟩
 ·rw [hq] at Hr
  clear hq e1
  by_cases hz : f.who.size = 0
  ·have e2 : f.who.toList.isEmpty = true := by rw [empty_of]; exact decide_eq_true hz
   have Hz := Lib.hid hz
   clear hz d1 d2 d3 d4 d6 d7
   go_wp2_with fail
   go_ret
   exact ⟨ret_int (by rw [Hr.out, if_neg (by simp), if_pos Hz.out]), below_step hwW hb1⟩
  ·have e2 : f.who.toList.isEmpty = false := by rw [empty_of]; exact decide_eq_false hz
   rw [if_neg (by simp), if_neg hz] at Hr
   have CF := Lib.hid (find_calls lo _ cs f.who _ (NRows.below HC.out (below_step hwW hb1)) (Nat.le_trans hlo (Nat.le_trans hwW.size hb1.size)))
   generalize knownB (cs.map ScD.who) f.who = KB at Hr CF
   generalize fndC cs f.who = Fc at Hr CF
   clear hz d1 d2 d4 d6 d7
   go_wp2_with fail
   refine CF.out.mono ?_
   rintro e w5 ⟨x, rfl, hx, hb5⟩
   have hb15 := below_step hb1 hb5
   have Hx := Lib.hid hx
   obtain ⟨xa, xc, rfl⟩ := strs_shape hx
   clear CF hx hb5 e2 d3 d5
   go_upto_region 7 with fail
   obtain ⟨W7, hW7⟩ : ∃ W7, W7 = w5.alloc (.cells #[.string Fc.who, .slice xa Fc.pos.length xc, .int .i64 Fc.num, .int .i64 Fc.den, .bool Fc.played] 77) := ⟨_, rfl⟩
   have hb7 : Below W.heap.size W W7 := by rw [hW7]; exact below_step hb15 (below_alloc w5 _)
   have hx7 : W7.heap[w5.heap.size]? = some (.cells #[.string Fc.who, .slice xa Fc.pos.length xc, .int .i64 Fc.num, .int .i64 Fc.den, .bool Fc.played] 77 (0, 0)) := by rw [hW7]; exact heap_alloc_new w5 _
   have Hx7 := Lib.hid (Hx.out.below (show Below w5.heap.size w5 W7 by rw [hW7]; exact below_alloc w5 _))
   have y0 := cell_at hx7 0 rfl
   have y1 := cell_at hx7 1 rfl
   have y2 := cell_at hx7 2 rfl
   have y3 := cell_at hx7 3 rfl
   have y4 := cell_at hx7 4 rfl
   rw [← hW7]
   have hb07 := below_step hwW hb7
   have Hz7 := Lib.hid hb7
   have HS7 := Lib.hid (show ∀ w', Below W7.heap.size W7 w' → (Below W7.heap.size W7 w' ∧ w'.cell? ⟨b1, 0, none⟩ = some (.slice (some ⟨g, off, none⟩) fs.length cap) ∧ w'.cell? ⟨b2, 0, none⟩ = some (.slice (some ⟨h, hoff, none⟩) ss.length hcap) ∧ w'.cell? ⟨w.heap.size, 1, none⟩ = some (.string f.who) ∧ w'.cell? ⟨h, hoff + i * 2, none⟩ = some (.string s.key) ∧ w'.cell? ⟨h, hoff + i * 2 + 1, none⟩ = some (.slice pa s.pos.length pc) ∧ w'.cell? ⟨w5.heap.size, 0, none⟩ = some (.string Fc.who) ∧ w'.cell? ⟨w5.heap.size, 1, none⟩ = some (.slice xa Fc.pos.length xc) ∧ w'.cell? ⟨w5.heap.size, 2, none⟩ = some (.int .i64 Fc.num) ∧ w'.cell? ⟨w5.heap.size, 3, none⟩ = some (.int .i64 Fc.den) ∧ w'.cell? ⟨w5.heap.size, 4, none⟩ = some (.bool Fc.played)) from fun w' hb => ⟨hb, (HS.out _ (below_step Hz7.out hb)).2.1, (HS.out _ (below_step Hz7.out hb)).2.2.1, (HS.out _ (below_step Hz7.out hb)).2.2.2.2.2.1, (HS.out _ (below_step Hz7.out hb)).2.2.2.2.2.2.1, (HS.out _ (below_step Hz7.out hb)).2.2.2.2.2.2.2, below_cell hb y0, below_cell hb y1, below_cell hb y2, below_cell hb y3, below_cell hb y4⟩)
   have hb0 := (Below.refl W7.heap.size W7).drew
   generalize hX7 : w5.heap.size = X7 at HS7 hx7 y0 y1 y2 y3 y4 ⊢
   clear hW7 hx7 y0 y1 y2 y3 y4 hX7 hb15 hb1 hb7 Hx
   show Code.wp _ (Code.region 7 ops_76_7 true) _ _ _
   refine region_start 20 (fun w' => Below W7.heap.size W7 w' ∧ w'.cell? ⟨b1, 0, none⟩ = some (.slice (some ⟨g, off, none⟩) fs.length cap) ∧ w'.cell? ⟨b2, 0, none⟩ = some (.slice (some ⟨h, hoff, none⟩) ss.length hcap) ∧ w'.cell? ⟨w.heap.size, 1, none⟩ = some (.string f.who) ∧ w'.cell? ⟨h, hoff + i * 2, none⟩ = some (.string s.key) ∧ w'.cell? ⟨h, hoff + i * 2 + 1, none⟩ = some (.slice pa s.pos.length pc) ∧ w'.cell? ⟨X7, 0, none⟩ = some (.string Fc.who) ∧ w'.cell? ⟨X7, 1, none⟩ = some (.slice xa Fc.pos.length xc) ∧ w'.cell? ⟨X7, 2, none⟩ = some (.int .i64 Fc.num) ∧ w'.cell? ⟨X7, 3, none⟩ = some (.int .i64 Fc.den) ∧ w'.cell? ⟨X7, 4, none⟩ = some (.bool Fc.played)) (by kernel_rfl) rfl ?_ (fun hHeld => ?_)
   ·(exact HS7.out _ (by first | assumption | exact hHeld.1 | exact below_step hHeld.1 (by assumption) | exact below_step hHeld.1 (below_alloc _ _)))
   refine take_to 0 31 (bQ 20 1) (v := ?_) ops_76_7_0 rfl ops_76_7_ns (by kernel_rfl) (by kernel_rfl) (fun _ _ _ h => h) (by rfl) ?y07 (by assumption) ?_
   case y07 => intro w hSw; (try dsimp only at hSw); go_simp; try with_reducible rfl
   simp only [sE0, sE1]
   refine take_to 2 33 (bQ 20 5) (v := ?_) ops_76_7_2 rfl ops_76_7_ns (by kernel_rfl) (by kernel_rfl) (fun _ _ _ h => h) (by rfl) ?y27 (by assumption) ?_
   case y27 => intro w hSw; (try dsimp only at hSw); go_simp; try with_reducible rfl
   simp only [sE0, sE1]
   refine take_to 3 34 (bQ 20 13) (v := ?_) ops_76_7_3 rfl ops_76_7_ns (by kernel_rfl) (by kernel_rfl) (fun _ _ _ h => h) (by rfl) ?y37 (by assumption) ?_
   case y37 => intro w hSw; (try dsimp only at hSw); go_simp; try with_reducible rfl
   simp only [sE0, sE1]
   refine take_to 4 35 (bQ 20 29) (v := ?_) ops_76_7_4 rfl ops_76_7_ns (by kernel_rfl) (by kernel_rfl) (fun _ _ _ h => h) (by rfl) ?y47 (by assumption) ?_
   case y47 => intro w hSw; (try dsimp only at hSw); go_simp; try with_reducible rfl
   simp only [sE0, sE1]
   refine take_to 5 36 (bQ 20 61) (v := ?_) ops_76_7_5 rfl ops_76_7_ns (by kernel_rfl) (by kernel_rfl) (fun _ _ _ h => h) (by rfl) ?y57 (by assumption) ?_
   case y57 => intro w hSw; (try dsimp only at hSw); go_simp; try with_reducible rfl
   simp only [sE0, sE1]
   refine take_to 6 37 (bQ 20 125) (v := ?_) ops_76_7_6 rfl ops_76_7_ns (by kernel_rfl) (by kernel_rfl) (fun _ _ _ h => h) (by rfl) ?y67 (by assumption) ?_
   case y67 => intro w hSw; (try dsimp only at hSw); go_simp; try with_reducible rfl
   simp only [sE0, sE1]
   refine take_to 10 41 (bQ 20 1149) (v := ?_) ops_76_7_10 rfl ops_76_7_ns (by kernel_rfl) (by kernel_rfl) (fun _ _ _ h => h) (by rfl) ?y107 (by assumption) ?_
   case y107 => intro w hSw; (try dsimp only at hSw); go_simp; try with_reducible rfl
   simp only [sE0, sE1]
   refine take_to 11 42 (bQ 20 3197) (v := ?_) ops_76_7_11 rfl ops_76_7_ns (by kernel_rfl) (by kernel_rfl) (fun _ _ _ h => h) (by rfl) ?y117 (by assumption) ?_
   case y117 => intro w hSw; (try dsimp only at hSw); go_simp; try with_reducible rfl
   simp only [sE0, sE1]
   refine take_to 12 43 (bQ 20 7293) (v := ?_) ops_76_7_12 rfl ops_76_7_ns (by kernel_rfl) (by kernel_rfl) (fun _ _ _ h => h) (by rfl) ?y127 (by assumption) ?_
   case y127 => intro w hSw; (try dsimp only at hSw); go_simp; try with_reducible rfl
   simp only [sE0, sE1]
   refine take_to 13 44 (bQ 20 15485) (v := ?_) ops_76_7_13 rfl ops_76_7_ns (by kernel_rfl) (by kernel_rfl) (fun _ _ _ h => h) (by rfl) ?y137 (by assumption) ?_
   case y137 => intro w hSw; (try dsimp only at hSw); go_simp; try with_reducible rfl
   simp only [sE0, sE1]
   refine take_to 14 45 (bQ 20 31869) (v := ?_) ops_76_7_14 rfl ops_76_7_ns (by kernel_rfl) (by kernel_rfl) (fun _ _ _ h => h) (by rfl) ?y147 (by assumption) ?_
   case y147 => intro w hSw; (try dsimp only at hSw); go_simp; try with_reducible rfl
   simp only [sE0, sE1]
   refine run_to 1 (bQ 20 31871) ops_76_7_1 (by kernel_rfl) (by kernel_rfl) (by rfl) (fun K hK => ?_)
   go_simp
   refine (unless_calls _ _ _).mono ?_
   rintro e w' ⟨rfl, rfl⟩
   go_wp2_with fail
   refine hK.out _ _ ?_ (fun hHeld => ?_)
   ·(exact HS7.out _ (by first | assumption | exact hHeld.1 | exact below_step hHeld.1 (by assumption) | exact below_step hHeld.1 (below_alloc _ _)))
   clear hK K
   try simp only [Act.put, sEt, sE0, sE1]
   refine run_to 7 (bQ 20 31999) ops_76_7_7 (by kernel_rfl) (by kernel_rfl) (by rfl) (fun K hK => ?_)
   go_simp
   refine (fielded_calls lo3 _ (fs.take i) f.who _ (HT.out.below (hb07.trans (hHeld.1.mono hb07.size)))).mono ?_
   rintro e w' ⟨rfl, hb⟩
   go_wp2_with fail
   refine hK.out _ _ ?_ (fun hHeld => ?_)
   ·(exact HS7.out _ (by first | assumption | exact hHeld.1 | exact below_step hHeld.1 (by assumption) | exact below_step hHeld.1 (below_alloc _ _)))
   clear hK K
   try simp only [Act.put, sEt, sE0, sE1]
   refine take_to 8 39 (bQ 20 32255) (v := ?_) ops_76_7_8 rfl ops_76_7_ns (by kernel_rfl) (by kernel_rfl) (fun _ _ _ h => h) (by rfl) ?y87 (by assumption) ?_
   case y87 => intro w hSw; (try dsimp only at hSw); go_simp; try with_reducible rfl
   simp only [sE0, sE1]
   refine run_to 9 (bQ 20 32767) ops_76_7_9 (by kernel_rfl) (by kernel_rfl) (by rfl) (fun K hK => ?_)
   go_simp
   refine (unless_calls _ _ _).mono ?_
   rintro e w' ⟨rfl, rfl⟩
   go_wp2_with fail
   refine hK.out _ _ ?_ (fun hHeld => ?_)
   ·(exact HS7.out _ (by first | assumption | exact hHeld.1 | exact below_step hHeld.1 (by assumption) | exact below_step hHeld.1 (below_alloc _ _)))
   clear hK K
   try simp only [Act.put, sEt, sE0, sE1]
   refine run_to 15 (bQ 20 65535) ops_76_7_15 (by kernel_rfl) (by kernel_rfl) (by rfl) (fun K hK => ?_)
   go_simp
   refine (suits_calls _ _ (.slice xa Fc.pos.length xc) (.slice pa s.pos.length pc) Fc s _ (Hx7.out.below hHeld.1) (Hpv.out.below (hb07.trans (hHeld.1.mono hb07.size)))).mono ?_
   rintro e w' ⟨rfl, hb⟩
   go_wp2_with fail
   refine hK.out _ _ ?_ (fun hHeld => ?_)
   ·(exact HS7.out _ (by first | assumption | exact hHeld.1 | exact below_step hHeld.1 (by assumption) | exact below_step hHeld.1 (below_alloc _ _)))
   clear hK K
   try simp only [Act.put, sEt, sE0, sE1]
   refine run_to 16 (bQ 20 131071) ops_76_7_16 (by kernel_rfl) (by kernel_rfl) (by rfl) (fun K hK => ?_)
   go_simp
   refine (unless_calls _ _ _).mono ?_
   rintro e w' ⟨rfl, rfl⟩
   go_wp2_with fail
   refine hK.out _ _ ?_ (fun hHeld => ?_)
   ·(exact HS7.out _ (by first | assumption | exact hHeld.1 | exact below_step hHeld.1 (by assumption) | exact below_step hHeld.1 (below_alloc _ _)))
   clear hK K
   try simp only [Act.put, sEt, sE0, sE1]
   refine run_to 17 (bQ 20 262143) ops_76_7_17 (by kernel_rfl) (by kernel_rfl) (by rfl) (fun K hK => ?_)
   go_simp
   refine hK.out _ _ ?_ (fun hHeld => ?_)
   ·(exact HS7.out _ (by first | assumption | exact hHeld.1 | exact below_step hHeld.1 (by assumption) | exact below_step hHeld.1 (below_alloc _ _)))
   clear hK K
   try simp only [Act.put, sEt, sE0, sE1]
   refine run_to 18 (bQ 20 524287) ops_76_7_18 (by kernel_rfl) (by kernel_rfl) (by rfl) (fun K hK => ?_)
   go_simp
   refine (orE_calls _ 0 3 [unlessE KB 8, unlessE (!inF (fs.take i) f.who) 6, unlessE (suitB Fc s) 10] _ (by simp) (by exact nums3s _ _ _ _ _)).mono ?_
   rintro e w' ⟨rfl, rfl⟩
   go_wp2_with fail
   refine hK.out _ _ ?_ (fun hHeld => ?_)
   ·(exact HS7.out _ (by first | assumption | exact hHeld.1 | exact below_step hHeld.1 (by assumption) | exact below_step hHeld.1 (below_alloc _ _)))
   clear hK K
   try simp only [Act.put, sEt, sE0, sE1]
   refine take_to 19 5 (bQ 20 1048575) (v := ?_) ops_76_7_19 rfl ops_76_7_ns (by kernel_rfl) (by kernel_rfl) (fun _ _ _ h => h) (by rfl) ?y197 (by assumption) ?_
   case y197 => intro w hSw; (try dsimp only at hSw); go_simp; try with_reducible rfl
   simp only [sE0, sE1]
   refine wpAnyH_done (by kernel_rfl) ?_ _
   go_wp2_with fail
   go_ret
   exact ⟨ret_int Hr.out.symm, below_step hb07 hHeld.1⟩
set_option maxRecDepth 100000 in
set_option maxHeartbeats 16000000 in
theorem checkFills_calls (lo lo' lo3 : Nat) (v u z : Value) (ss : List SlD) (cs : List ScD) (fs : List FiD) (w : World) (hS : Sls w lo' v ss) (hs : ∀ c ∈ ss, SmallSl c) (hsn : ss.length ≤ 1000000) (hC : Scs w lo u cs) (hc : ∀ c ∈ cs, SmallSc c) (hcn : cs.length ≤ 1000000) (hlo : lo ≤ w.heap.size) (hF : Fis w lo3 z fs) (hfn : fs.length ≤ 1000000) :
  Calls Tryz.prog 25 #[v, u, z] w (IntBelow (chkFi ss cs fs) w) := by
 obtain ⟨W, hW⟩ : ∃ W, W = ((w.alloc (.cells #[v] 26)).alloc (.cells #[u] 28)).alloc (.cells #[z] 30) := ⟨_, rfl⟩
 have hwW : Below w.heap.size w W := by rw [hW]; exact ((below_alloc w _).trans ((below_alloc _ _).mono (by simp))).trans ((below_alloc _ _).mono (by simp; omega))
 have y0 : W.heap[w.heap.size]? = some (.cells #[v] 26 (0, 0)) := by rw [hW]; exact heap_al (heap_al (heap_alloc_new w _) _) _
 have y1 : W.heap[w.heap.size + 1]? = some (.cells #[u] 28 (0, 0)) := by
  have := heap_alloc_new (w.alloc (.cells #[v] 26)) (.cells #[u] 28)
  rw [World.size_alloc] at this
  rw [hW]; exact heap_al this _
 have y2 : W.heap[w.heap.size + 2]? = some (.cells #[z] 30 (0, 0)) := by
  have := heap_alloc_new ((w.alloc (.cells #[v] 26)).alloc (.cells #[u] 28)) (.cells #[z] 30)
  rw [World.size_alloc, World.size_alloc] at this
  rw [hW]; exact this
 have x0 := cell_at y0 0 rfl
 have x1 := cell_at y1 0 rfl
 have x2 := cell_at y2 0 rfl
 have HSW := Lib.hid (NRows.below hS hwW)
 have HCW := Lib.hid (NRows.below hC hwW)
 have HFW := Lib.hid (Fis.below hF hwW)
 have hloW : lo ≤ W.heap.size := Nat.le_trans hlo hwW.size
 have Hs := Lib.hid hs
 have Hc := Lib.hid hc
 have HF := Lib.hid (show fs.length = ss.length → ∀ (V : World) (i : Nat), i < fs.length → Below W.heap.size W V → Calls Tryz.prog 76 (#[.int .i64 (i : Int)] ++ #[.pointer (some ⟨w.heap.size + 2, 0, none⟩), .pointer (some ⟨w.heap.size, 0, none⟩), .pointer (some ⟨w.heap.size + 1, 0, none⟩)]) V (IntBelow (chF ss cs fs i) V) from by
  intro hl V i hi hb
  obtain ⟨f, hf⟩ : ∃ f, fs[i]? = some f := ⟨_, List.getElem?_eq_getElem hi⟩
  obtain ⟨s, hs⟩ : ∃ s, ss[i]? = some s := ⟨_, List.getElem?_eq_getElem (by omega)⟩
  have hFV := HFW.out.below hb
  have hSV := NRows.below HSW.out hb
  have z2 := below_cell hb x2
  have z0 := below_cell hb x0
  rcases fis_at hFV with ⟨_, h⟩ | ⟨g, off, cap, e, _⟩
  ·subst h; simp at hi
  rcases sls_at hSV with ⟨_, h⟩ | ⟨g', off', cap', e', _⟩
  ·subst h; simp at hs
  rw [e] at hFV z2
  rw [e'] at hSV z0
  exact checkFills1_calls (w.heap.size + 2) w.heap.size (w.heap.size + 1) g off cap g' off' cap' i lo lo' lo3 u ss cs fs f s V hf hs hfn z2 hFV z0 hSV (below_cell hb x1) (NRows.below HCW.out hb) (Nat.le_trans hloW hb.size))
 have HR := Lib.hid (show chkFi ss cs fs = if ch0 ss cs fs = 0 then eachE fs.length fs.length (chF ss cs fs) else ch0 ss cs fs from rfl)
 have HR0 := Lib.hid (show ch0 ss cs fs = firstE [sdE ss cs, unlessE ((fs.length : Int) == (ss.length : Int)) 3] from rfl)
 have HL := Lib.hid (show ((fs.length : Int) == (ss.length : Int)) = false ∨ (((fs.length : Int) == (ss.length : Int)) = true ∧ fs.length = ss.length) by
  by_cases h : fs.length = ss.length
  ·exact .inr ⟨by rw [beq_iff_eq]; omega, h⟩
  ·exact .inl (by rw [beq_eq_false_iff_ne]; omega))
 generalize chkFi ss cs fs = R at HR ⊢
 obtain ⟨a, c, rfl⟩ := NRows.shape hS
 obtain ⟨a', c', rfl⟩ := NRows.shape hC
 obtain ⟨a3, c3, rfl⟩ := fis_shape hF
 have HS := Lib.hid (show ∀ w', Below W.heap.size W w' → (Below W.heap.size W w' ∧ w'.cell? ⟨w.heap.size, 0, none⟩ = some (.slice a ss.length c) ∧ w'.cell? ⟨w.heap.size + 1, 0, none⟩ = some (.slice a' cs.length c') ∧ w'.cell? ⟨w.heap.size + 2, 0, none⟩ = some (.slice a3 fs.length c3)) from fun w' hb => ⟨hb, below_cell hb x0, below_cell hb x1, below_cell hb x2⟩)
 have hb0 := (Below.refl W.heap.size W).drew
 clear hS hC hF hs hc y0 y1 y2 x0 x1 x2
 go_enter Tryz.func25, Tryz.ntmps25
 go_upto_region 1 with fail
 rw [← hW]
 clear hW
 show Code.wp _ (Code.region 1 ops_25_1 true) _ _ _
 refine region_start 12 (fun w' => Below W.heap.size W w' ∧ w'.cell? ⟨w.heap.size, 0, none⟩ = some (.slice a ss.length c) ∧ w'.cell? ⟨w.heap.size + 1, 0, none⟩ = some (.slice a' cs.length c') ∧ w'.cell? ⟨w.heap.size + 2, 0, none⟩ = some (.slice a3 fs.length c3)) (by kernel_rfl) rfl ?_ (fun hHeld => ?_)
 ·(exact HS.out _ (by first | assumption | exact hHeld.1 | exact below_step hHeld.1 (by assumption) | exact below_step hHeld.1 (below_alloc _ _)))
 refine take_to 0 8 (bQ 12 1) (v := ?_) ops_25_1_0 rfl ops_25_1_ns (by kernel_rfl) (by kernel_rfl) (fun _ _ _ h => h) (by rfl) ?y0G (by assumption) ?_
 case y0G => intro w hSw; (try dsimp only at hSw); go_simp; try with_reducible rfl
 simp only [sE0, sE1]
 refine take_to 1 9 (bQ 12 3) (v := ?_) ops_25_1_1 rfl ops_25_1_ns (by kernel_rfl) (by kernel_rfl) (fun _ _ _ h => h) (by rfl) ?y1G (by assumption) ?_
 case y1G => intro w hSw; (try dsimp only at hSw); go_simp; try with_reducible rfl
 simp only [sE0, sE1]
 refine take_to 3 11 (bQ 12 11) (v := ?_) ops_25_1_3 rfl ops_25_1_ns (by kernel_rfl) (by kernel_rfl) (fun _ _ _ h => h) (by rfl) ?y3G (by assumption) ?_
 case y3G => intro w hSw; (try dsimp only at hSw); go_simp; try with_reducible rfl
 simp only [sE0, sE1]
 refine take_to 4 12 (bQ 12 27) (v := ?_) ops_25_1_4 rfl ops_25_1_ns (by kernel_rfl) (by kernel_rfl) (fun _ _ _ h => h) (by rfl) ?y4G (by assumption) ?_
 case y4G => intro w hSw; (try dsimp only at hSw); go_simp; try with_reducible rfl
 simp only [sE0, sE1]
 refine take_to 5 13 (bQ 12 59) (v := ?_) ops_25_1_5 rfl ops_25_1_ns (by kernel_rfl) (by kernel_rfl) (fun _ _ _ h => h) (by rfl) ?y5G (by assumption) ?_
 case y5G => intro w hSw; (try dsimp only at hSw); go_simp; try with_reducible rfl
 simp only [sE0, sE1]
 refine take_to 6 14 (bQ 12 123) (v := ?_) ops_25_1_6 rfl ops_25_1_ns (by kernel_rfl) (by kernel_rfl) (fun _ _ _ h => h) (by rfl) ?y6G (by assumption) ?_
 case y6G => intro w hSw; (try dsimp only at hSw); go_simp; try with_reducible rfl
 simp only [sE0, sE1]
 refine take_to 7 15 (bQ 12 251) (v := ?_) ops_25_1_7 rfl ops_25_1_ns (by kernel_rfl) (by kernel_rfl) (fun _ _ _ h => h) (by rfl) ?y7G (by assumption) ?_
 case y7G => intro w hSw; (try dsimp only at hSw); go_simp; try with_reducible rfl
 simp only [sE0, sE1]
 refine run_to 2 (bQ 12 255) ops_25_1_2 (by kernel_rfl) (by kernel_rfl) (by rfl) (fun K hK => ?_)
 go_simp
 refine (wrongSides_calls lo' lo _ _ ss cs _ (NRows.below HSW.out hHeld.1) Hs.out hsn (NRows.below HCW.out hHeld.1) Hc.out hcn).mono ?_
 rintro e w' ⟨rfl, hb⟩
 go_wp2_with fail
 refine hK.out _ _ ?_ (fun hHeld => ?_)
 ·(exact HS.out _ (by first | assumption | exact hHeld.1 | exact below_step hHeld.1 (by assumption) | exact below_step hHeld.1 (below_alloc _ _)))
 clear hK K
 try simp only [Act.put, sEt, sE0, sE1]
 refine run_to 8 (bQ 12 511) ops_25_1_8 (by kernel_rfl) (by kernel_rfl) (by rfl) (fun K hK => ?_)
 go_simp
 refine (unless_calls _ _ _).mono ?_
 rintro e w' ⟨rfl, rfl⟩
 go_wp2_with fail
 refine hK.out _ _ ?_ (fun hHeld => ?_)
 ·(exact HS.out _ (by first | assumption | exact hHeld.1 | exact below_step hHeld.1 (by assumption) | exact below_step hHeld.1 (below_alloc _ _)))
 clear hK K
 try simp only [Act.put, sEt, sE0, sE1]
 refine run_to 9 (bQ 12 1023) ops_25_1_9 (by kernel_rfl) (by kernel_rfl) (by rfl) (fun K hK => ?_)
 go_simp
 refine hK.out _ _ ?_ (fun hHeld => ?_)
 ·(exact HS.out _ (by first | assumption | exact hHeld.1 | exact below_step hHeld.1 (by assumption) | exact below_step hHeld.1 (below_alloc _ _)))
 clear hK K
 try simp only [Act.put, sEt, sE0, sE1]
 refine run_to 10 (bQ 12 2047) ops_25_1_10 (by kernel_rfl) (by kernel_rfl) (by rfl) (fun K hK => ?_)
 go_simp
 refine (orE_calls _ 0 2 [sdE ss cs, unlessE ((fs.length : Int) == (ss.length : Int)) 3] _ (by simp) (by exact nums2 _ _ _ _)).mono ?_
 rintro e w' ⟨rfl, rfl⟩
 go_wp2_with fail
 refine hK.out _ _ ?_ (fun hHeld => ?_)
 ·(exact HS.out _ (by first | assumption | exact hHeld.1 | exact below_step hHeld.1 (by assumption) | exact below_step hHeld.1 (below_alloc _ _)))
 clear hK K
 try simp only [Act.put, sEt, sE0, sE1]
 refine take_to 11 7 (bQ 12 4095) (v := ?_) ops_25_1_11 rfl ops_25_1_ns (by kernel_rfl) (by kernel_rfl) (fun _ _ _ h => h) (by rfl) ?y11G (by assumption) ?_
 case y11G => intro w hSw; (try dsimp only at hSw); go_simp; try with_reducible rfl
 simp only [sE0, sE1]
 refine wpAnyH_done (by kernel_rfl) ?_ _
 have hb1 := hHeld.1
 obtain ⟨-, d0, d1, d2⟩ := hHeld
 rw [← HR0.out]
 by_cases hz : ch0 ss cs fs = 0
 ·have hl : fs.length = ss.length := by
   rcases HL.out with h | h
   ·rw [HR0.out, h] at hz
    simp [firstE, unlessE] at hz
    split at hz <;> simp_all
   ·exact h.2
  have CE := Lib.hid (each_calls 76 #[.pointer (some ⟨w.heap.size + 2, 0, none⟩), .pointer (some ⟨w.heap.size, 0, none⟩), .pointer (some ⟨w.heap.size + 1, 0, none⟩)] (enters_of Tryz.func76 (by kernel_rfl) rfl) (chF ss cs fs) fs.length fs.length _ hfn (fun V i h1 h2 => HF.out hl V i h1 (below_step hb1 h2)))
  have Hz := Lib.hid hz
  rw [hz]
  clear hz hl d0 d1
  go_wp2_with fail
  refine CE.out.mono ?_
  rintro e w' ⟨rfl, hb⟩
  go_wp2_with fail
  go_ret
  exact ⟨ret_int (by rw [HR.out, if_pos Hz.out]), below_step hwW (below_step hb1 hb)⟩
 ·have Hz := Lib.hid hz
  have hne : (ch0 ss cs fs == 0) = false := by rw [beq_eq_false_iff_ne]; exact hz
  generalize hX0 : ch0 ss cs fs = X0 at hne HR Hz ⊢
  clear hz d0 d1 d2 hX0
  go_wp2_with fail
  go_ret
  exact ⟨ret_int (by rw [HR.out, if_neg Hz.out]), below_step hwW hb1⟩
end Go.Proofs.YtfcaokpadodijaaGreat
/- FillsFault: the same as CheckFills, of right slots and scorers. -/
namespace Go.Proofs.YtfcaokpadodijaaGreat
open Go.RowKit

def fiE (ss : List SlD) (cs : List ScD) (fs : List FiD) : Int := if fs.length = ss.length then eachE fs.length fs.length (chF ss cs fs) else 3
theorem fiE_eq {ss : List SlD} {cs : List ScD} {fs : List FiD} (h : sdE ss cs = 0) : chkFi ss cs fs = fiE ss cs fs := by
 unfold chkFi fiE ch0
 rw [h]
 by_cases hl : fs.length = ss.length
 ·have e : ((fs.length : Int) == (ss.length : Int)) = true := by rw [beq_iff_eq]; omega
  rw [e, if_pos hl]; simp [firstE, unlessE]
 ·have e : ((fs.length : Int) == (ss.length : Int)) = false := by rw [beq_eq_false_iff_ne]; omega
  rw [e, if_neg hl]; simp [firstE, unlessE]
theorem ch_slot {ss : List SlD} {cs : List ScD} {fs : List FiD} {i : Nat} {f : FiD} {s : SlD} (hf : fs[i]? = some f) (hs : ss[i]? = some s) (h : beqS f.slot s.key = false) : chF ss cs fs i = 8 := by
 unfold chF; rw [fiAt_some hf, slAt_some hs, if_pos h]
theorem ch_empty {ss : List SlD} {cs : List ScD} {fs : List FiD} {i : Nat} {f : FiD} {s : SlD} (hf : fs[i]? = some f) (hs : ss[i]? = some s) (h : beqS f.slot s.key = true) (hz : f.who.size = 0) : chF ss cs fs i = 0 := by
 unfold chF; rw [fiAt_some hf, slAt_some hs, if_neg (by rw [h]; simp), if_pos hz]
theorem ch_rest {ss : List SlD} {cs : List ScD} {fs : List FiD} {i : Nat} {f : FiD} {s : SlD} (hf : fs[i]? = some f) (hs : ss[i]? = some s) (h : beqS f.slot s.key = true) (hz : f.who.size ≠ 0) :
  chF ss cs fs i = firstE [unlessE (knownB (cs.map ScD.who) f.who) 8, unlessE (!inF (fs.take i) f.who) 6, unlessE (suitB (fndC cs f.who) s) 10] := by
 unfold chF; rw [fiAt_some hf, slAt_some hs, if_neg (by rw [h]; simp), if_neg hz]
theorem fillsFault1_calls (f : FiD) (k : ByteArray) (X : Nat) (w : World) (hX : w.cell? ⟨X, 1, none⟩ = some (.string k)) :
  Calls Tryz.prog 60 #[.agg #[.string f.slot, .string f.who], .pointer (some ⟨X, 0, none⟩)] w (BoolIs (beqS f.who k) w) := by
 go_enter Tryz.func60, Tryz.ntmps60
 have hX1 := below_cell (below_alloc w (.cells #[.string f.slot, .string f.who] 49)) hX
 go_wp2_with fail
 go_ret
 exact ⟨ret_bool (by unfold beqS; rfl), below_alloc w _⟩
def ops_15_7 : Array Go.Oper := #[
 ⟨some 27, .fieldAddr 49 (.tmp 8) 0, 0, "scores.go:213", #[], none⟩,
 ⟨some 28, .load 9 (.tmp 27), 9, "scores.go:213", #[⟨0, .data⟩], none⟩,
 ⟨some 29, .move (.tmp 0), 26, "scores.go:213", #[], none⟩,
 ⟨some 30, .move (.tmp 7), 3, "scores.go:213", #[], none⟩,
 ⟨some 31, .indexAddr 26 (.tmp 29) (.tmp 30), 0, "scores.go:213", #[⟨2, .data⟩, ⟨3, .data⟩], none⟩,
 ⟨some 32, .fieldAddr 72 (.tmp 31) 0, 0, "scores.go:213", #[⟨4, .data⟩], none⟩,
 ⟨some 33, .load 9 (.tmp 32), 9, "scores.go:213", #[⟨5, .data⟩], none⟩,
 ⟨some 34, .binOp .neq 9 (.tmp 28) (.tmp 33) 9, 4, "scores.go:213", #[⟨1, .data⟩, ⟨6, .data⟩], none⟩,
 ⟨some 26, .assign (.tmp 34), 4, "scores.go:213", #[⟨7, .data⟩], none⟩]
theorem ops_15_7_0 : ops_15_7[0]? = some (⟨some 27, .fieldAddr 49 (.tmp 8) 0, 0, "scores.go:213", #[], none⟩ : Go.Oper) := rfl
theorem ops_15_7_1 : ops_15_7[1]? = some (⟨some 28, .load 9 (.tmp 27), 9, "scores.go:213", #[⟨0, .data⟩], none⟩ : Go.Oper) := rfl
theorem ops_15_7_2 : ops_15_7[2]? = some (⟨some 29, .move (.tmp 0), 26, "scores.go:213", #[], none⟩ : Go.Oper) := rfl
theorem ops_15_7_3 : ops_15_7[3]? = some (⟨some 30, .move (.tmp 7), 3, "scores.go:213", #[], none⟩ : Go.Oper) := rfl
theorem ops_15_7_4 : ops_15_7[4]? = some (⟨some 31, .indexAddr 26 (.tmp 29) (.tmp 30), 0, "scores.go:213", #[⟨2, .data⟩, ⟨3, .data⟩], none⟩ : Go.Oper) := rfl
theorem ops_15_7_5 : ops_15_7[5]? = some (⟨some 32, .fieldAddr 72 (.tmp 31) 0, 0, "scores.go:213", #[⟨4, .data⟩], none⟩ : Go.Oper) := rfl
theorem ops_15_7_6 : ops_15_7[6]? = some (⟨some 33, .load 9 (.tmp 32), 9, "scores.go:213", #[⟨5, .data⟩], none⟩ : Go.Oper) := rfl
theorem ops_15_7_7 : ops_15_7[7]? = some (⟨some 34, .binOp .neq 9 (.tmp 28) (.tmp 33) 9, 4, "scores.go:213", #[⟨1, .data⟩, ⟨6, .data⟩], none⟩ : Go.Oper) := rfl
theorem ops_15_7_8 : ops_15_7[8]? = some (⟨some 26, .assign (.tmp 34), 4, "scores.go:213", #[⟨7, .data⟩], none⟩ : Go.Oper) := rfl
theorem ops_15_7_ns : Go.Region.noSelect ops_15_7 = true := by kernel_rfl
def ops_15_14 : Array Go.Oper := #[
 ⟨some 49, .move (.tmp 0), 26, "scores.go:220", #[], none⟩,
 ⟨some 50, .move (.tmp 7), 3, "scores.go:220", #[], none⟩,
 ⟨some 51, .indexAddr 26 (.tmp 49) (.tmp 50), 0, "scores.go:220", #[⟨0, .data⟩, ⟨1, .data⟩], none⟩,
 ⟨some 52, .load 72 (.tmp 51), 72, "scores.go:220", #[⟨2, .data⟩], none⟩,
 ⟨some 53, .move (.tmp 1), 28, "scores.go:220", #[], none⟩,
 ⟨some 54, .move (.tmp 9), 3, "scores.go:220", #[], none⟩,
 ⟨some 55, .indexAddr 28 (.tmp 53) (.tmp 54), 0, "scores.go:220", #[⟨4, .data⟩, ⟨5, .data⟩], none⟩,
 ⟨some 56, .load 77 (.tmp 55), 77, "scores.go:220", #[⟨6, .data⟩], none⟩,
 ⟨some 57, .call { callee := .value (.func 61), args := #[.tmp 52, .tmp 56], argTypes := #[72, 77] }, 4, "scores.go:220", #[⟨3, .data⟩, ⟨7, .data⟩], none⟩,
 ⟨some 58, .unOp .not 4 (.tmp 57), 4, "scores.go:220", #[⟨8, .data⟩], none⟩,
 ⟨some 48, .assign (.tmp 58), 4, "scores.go:220", #[⟨9, .data⟩, ⟨8, .chain⟩], none⟩]
theorem ops_15_14_0 : ops_15_14[0]? = some (⟨some 49, .move (.tmp 0), 26, "scores.go:220", #[], none⟩ : Go.Oper) := rfl
theorem ops_15_14_1 : ops_15_14[1]? = some (⟨some 50, .move (.tmp 7), 3, "scores.go:220", #[], none⟩ : Go.Oper) := rfl
theorem ops_15_14_2 : ops_15_14[2]? = some (⟨some 51, .indexAddr 26 (.tmp 49) (.tmp 50), 0, "scores.go:220", #[⟨0, .data⟩, ⟨1, .data⟩], none⟩ : Go.Oper) := rfl
theorem ops_15_14_3 : ops_15_14[3]? = some (⟨some 52, .load 72 (.tmp 51), 72, "scores.go:220", #[⟨2, .data⟩], none⟩ : Go.Oper) := rfl
theorem ops_15_14_4 : ops_15_14[4]? = some (⟨some 53, .move (.tmp 1), 28, "scores.go:220", #[], none⟩ : Go.Oper) := rfl
theorem ops_15_14_5 : ops_15_14[5]? = some (⟨some 54, .move (.tmp 9), 3, "scores.go:220", #[], none⟩ : Go.Oper) := rfl
theorem ops_15_14_6 : ops_15_14[6]? = some (⟨some 55, .indexAddr 28 (.tmp 53) (.tmp 54), 0, "scores.go:220", #[⟨4, .data⟩, ⟨5, .data⟩], none⟩ : Go.Oper) := rfl
theorem ops_15_14_7 : ops_15_14[7]? = some (⟨some 56, .load 77 (.tmp 55), 77, "scores.go:220", #[⟨6, .data⟩], none⟩ : Go.Oper) := rfl
theorem ops_15_14_8 : ops_15_14[8]? = some (⟨some 57, .call { callee := .value (.func 61), args := #[.tmp 52, .tmp 56], argTypes := #[72, 77] }, 4, "scores.go:220", #[⟨3, .data⟩, ⟨7, .data⟩], none⟩ : Go.Oper) := rfl
theorem ops_15_14_9 : ops_15_14[9]? = some (⟨some 58, .unOp .not 4 (.tmp 57), 4, "scores.go:220", #[⟨8, .data⟩], none⟩ : Go.Oper) := rfl
theorem ops_15_14_10 : ops_15_14[10]? = some (⟨some 48, .assign (.tmp 58), 4, "scores.go:220", #[⟨9, .data⟩, ⟨8, .chain⟩], none⟩ : Go.Oper) := rfl
theorem ops_15_14_ns : Go.Region.noSelect ops_15_14 = true := by kernel_rfl
/-- Where a scorer is, and who it is. -/
def AtV (cs : List ScD) (k : ByteArray) (v : Int) : Prop := (v = -1 ∧ knownB (cs.map ScD.who) k = false) ∨ ∃ q : Nat, v = (q : Int) ∧ cs[q]? = some (fndC cs k) ∧ knownB (cs.map ScD.who) k = true
theorem at_of {cs : List ScD} {k : ByteArray} {w w' : World} {e : Ending} (hs : SortedK (cs.map ScD.who)) (h : IdxFirstC (fun c => beqS c.who k) cs w e w') : ∃ v : Int, e = .returned (.int .i64 v) ∧ AtV cs k v := by
 rcases h.1 with ⟨rfl, h0⟩ | ⟨i, c, rfl, hc, hk, _⟩
 ·exact ⟨_, rfl, .inl ⟨rfl, (fnd_none hs h0).1⟩⟩
 ·obtain ⟨h1, _, h3⟩ := fnd_at hs hc (beqS_iff.1 hk)
  exact ⟨_, rfl, .inr ⟨i, rfl, by rw [h3]; exact hc, h1⟩⟩
set_option maxRecDepth 100000 in
set_option maxHeartbeats 16000000 in
theorem fillsFault_calls (lo lo' lo3 : Nat) (v u z : Value) (ss : List SlD) (cs : List ScD) (fs : List FiD) (w : World) (hS : Sls w lo' v ss) (hC : Scs w lo u cs) (hsort : SortedK (cs.map ScD.who)) (hcn : cs.length ≤ 1000000) (hF : Fis w lo3 z fs) (hfn : fs.length ≤ 1000000) :
  Calls Tryz.prog 15 #[v, u, z] w (IntBelow (fiE ss cs fs) w) := by
 have HS := Lib.hid hS
 have HC := Lib.hid hC
 have HF := Lib.hid hF
 have Hsort := Lib.hid hsort
 obtain ⟨sa, sc, rfl⟩ := NRows.shape hS
 obtain ⟨ca, cc, rfl⟩ := NRows.shape hC
 obtain ⟨fa, fc, rfl⟩ := fis_shape hF
 clear hS hC hF hsort
 by_cases hl : fs.length = ss.length
 ·have HE := Lib.hid (show fiE ss cs fs = eachE fs.length fs.length (chF ss cs fs) by unfold fiE; rw [if_pos hl])
  have Hl := Lib.hid hl
  rw [HE.out, ← hl]
  clear hl
  have Hm := Lib.hid (show (fs.length : Int) ≤ fs.length by omega)
  go_enter Tryz.func15, Tryz.ntmps15
  go_wp2_with fail
  go_loopw [17] (fun i wr => ∃ k : Nat, k ≤ fs.length ∧ i = .int .i64 k ∧ Hid (∀ i, i < k → chF ss cs fs i = 0) ∧ Below w.heap.size w wr) (fun i _ => fs.length - (intOf i).toNat)
  case atStart => exact ⟨0, Nat.zero_le _, rfl, Lib.hid (fun i hi => by omega), Below.refl _ _⟩
  case round =>
   obtain ⟨k, hk, rfl, H0, hb⟩ := hrel
   by_cases hlt : k < fs.length
   ·obtain ⟨f, hf⟩ : ∃ f, fs[k]? = some f := ⟨_, List.getElem?_eq_getElem hlt⟩
    obtain ⟨s, hs⟩ : ∃ s, ss[k]? = some s := ⟨_, List.getElem?_eq_getElem (by have := Hl.out; omega)⟩
    have Hhit := Lib.hid (fun (h : chF ss cs fs k ≠ 0) => (show eachE fs.length fs.length (chF ss cs fs) = chF ss cs fs k from eachE_hit Hm.out hlt H0.out h))
    have Hnext := Lib.hid (fun (h : chF ss cs fs k = 0) i (hi : i < k + 1) => (show chF ss cs fs i = 0 by
     rcases Nat.lt_succ_iff_lt_or_eq.1 hi with h' | rfl
     ·exact H0.out i h'
     ·exact h))
    have Hslot := Lib.hid (ch_slot (cs := cs) hf hs)
    have Hempty := Lib.hid (ch_empty (cs := cs) hf hs)
    have Hrest := Lib.hid (ch_rest (cs := cs) hf hs)
    rcases fis_at HF.out with ⟨_, h⟩ | ⟨g, off, cap, e, _, hg, _, hcell⟩
    ·rw [h] at hlt; simp at hlt
    simp only [Value.slice.injEq] at e
    obtain ⟨rfl, -, rfl⟩ := e
    obtain ⟨q0, q1⟩ := hcell k f hf
    have q0 := below_cell hb q0
    have q1 := below_cell hb q1
    rcases sls_at HS.out with ⟨_, h⟩ | ⟨g', off', cap', e, _, hg', _, hcell'⟩
    ·rw [h] at hs; simp at hs
    simp only [Value.slice.injEq] at e
    obtain ⟨rfl, -, rfl⟩ := e
    obtain ⟨pv, s0, s1, hpv⟩ := hcell' k s hs
    have Hpv := Lib.hid hpv
    obtain ⟨pa, pc, rfl⟩ := strs_shape hpv
    have s0 := below_cell hb s0
    have s1 := below_cell hb s1
    have hfit : fs.length ≤ fc := by have := Rows.fits HF.out; simpa using this
    have hic : k ≤ fc := by omega
    have hil : k ≤ fs.length := by omega
    have hlt' : (k : Int) < (fs.length : Int) := by omega
    clear hcell hcell' hf hs hpv
    go_upto_region 6 with fail
    obtain ⟨W, hW⟩ : ∃ W, W = wr.alloc (.cells #[.string f.slot, .string f.who] 49) := ⟨_, rfl⟩
    have hbW : Below w.heap.size w W := by rw [hW]; exact below_step hb (below_alloc wr _)
    have hx : W.heap[wr.heap.size]? = some (.cells #[.string f.slot, .string f.who] 49 (0, 0)) := by rw [hW]; exact heap_alloc_new wr _
    have hbrW : Below wr.heap.size wr W := by rw [hW]; exact below_alloc wr _
    rw [← hW]
    have x0 := cell_at hx 0 rfl
    have x1 := cell_at hx 1 rfl
    have s0 := below_cell hbrW s0
    have s1 := below_cell hbrW s1
    have HS7 := Lib.hid (show ∀ w', Below W.heap.size W w' → (Below W.heap.size W w' ∧ w'.cell? ⟨wr.heap.size, 0, none⟩ = some (.string f.slot) ∧ w'.cell? ⟨wr.heap.size, 1, none⟩ = some (.string f.who) ∧ w'.cell? ⟨g', off' + k * 2, none⟩ = some (.string s.key) ∧ w'.cell? ⟨g', off' + k * 2 + 1, none⟩ = some (.slice pa s.pos.length pc)) from fun w' hb => ⟨hb, below_cell hb x0, below_cell hb x1, below_cell hb s0, below_cell hb s1⟩)
    have e1 : (!(f.slot.toList == s.key.toList)) = !beqS f.slot s.key := rfl
    generalize hX : wr.heap.size = X at HS7 hx x0 x1 ⊢
    clear hW hbrW hX q0 q1 hx hb s0 s1 x0
    go_wp2_with fail
    refine (scorerAt_calls lo _ cs f.who W (NRows.below HC.out hbW)).mono ?_
    rintro e w1 hat
    have hb1 := hat.2
    obtain ⟨kv, rfl, hkv⟩ := at_of Hsort.out hat
    have Hkv := Lib.hid hkv
    have Hk := Lib.hid (show kv < 0 ∨ 0 ≤ kv by omega)
    clear hat hkv x1
    go_upto_region 7 with fail
    have hb0 := hb1.drew
    show Code.wp _ (Code.region 7 ops_15_7 true) _ _ _
    refine region_start 9 (fun w' => Below W.heap.size W w' ∧ w'.cell? ⟨X, 0, none⟩ = some (.string f.slot) ∧ w'.cell? ⟨X, 1, none⟩ = some (.string f.who) ∧ w'.cell? ⟨g', off' + k * 2, none⟩ = some (.string s.key) ∧ w'.cell? ⟨g', off' + k * 2 + 1, none⟩ = some (.slice pa s.pos.length pc)) (by kernel_rfl) rfl ?_ (fun hHeld => ?_)
    ·(exact HS7.out _ (by first | assumption | exact hHeld.1 | exact below_step hHeld.1 (by assumption) | exact below_step hHeld.1 (below_alloc _ _)))
    refine take_to 0 27 (bQ 9 1) (v := ?_) ops_15_7_0 rfl ops_15_7_ns (by kernel_rfl) (by kernel_rfl) (fun _ _ _ h => h) (by rfl) ?y07 (by assumption) ?_
    case y07 => intro w hSw; (try dsimp only at hSw); go_simp; try with_reducible rfl
    simp only [sE0, sE1]
    refine take_to 1 28 (bQ 9 3) (v := ?_) ops_15_7_1 rfl ops_15_7_ns (by kernel_rfl) (by kernel_rfl) (fun _ _ _ h => h) (by rfl) ?y17 (by assumption) ?_
    case y17 => intro w hSw; (try dsimp only at hSw); go_simp; try with_reducible rfl
    simp only [sE0, sE1]
    refine take_to 2 29 (bQ 9 7) (v := ?_) ops_15_7_2 rfl ops_15_7_ns (by kernel_rfl) (by kernel_rfl) (fun _ _ _ h => h) (by rfl) ?y27 (by assumption) ?_
    case y27 => intro w hSw; (try dsimp only at hSw); go_simp; try with_reducible rfl
    simp only [sE0, sE1]
    refine take_to 3 30 (bQ 9 15) (v := ?_) ops_15_7_3 rfl ops_15_7_ns (by kernel_rfl) (by kernel_rfl) (fun _ _ _ h => h) (by rfl) ?y37 (by assumption) ?_
    case y37 => intro w hSw; (try dsimp only at hSw); go_simp; try with_reducible rfl
    simp only [sE0, sE1]
    refine take_to 4 31 (bQ 9 31) (v := ?_) ops_15_7_4 rfl ops_15_7_ns (by kernel_rfl) (by kernel_rfl) (fun _ _ _ h => h) (by rfl) ?y47 (by assumption) ?_
    case y47 => intro w hSw; (try dsimp only at hSw); go_simp; try with_reducible rfl
    simp only [sE0, sE1]
    refine take_to 5 32 (bQ 9 63) (v := ?_) ops_15_7_5 rfl ops_15_7_ns (by kernel_rfl) (by kernel_rfl) (fun _ _ _ h => h) (by rfl) ?y57 (by assumption) ?_
    case y57 => intro w hSw; (try dsimp only at hSw); go_simp; try with_reducible rfl
    simp only [sE0, sE1]
    refine take_to 6 33 (bQ 9 127) (v := ?_) ops_15_7_6 rfl ops_15_7_ns (by kernel_rfl) (by kernel_rfl) (fun _ _ _ h => h) (by rfl) ?y67 (by assumption) ?_
    case y67 => intro w hSw; (try dsimp only at hSw); go_simp; try with_reducible rfl
    simp only [sE0, sE1]
    refine take_to 7 34 (bQ 9 255) (v := ?_) ops_15_7_7 rfl ops_15_7_ns (by kernel_rfl) (by kernel_rfl) (fun _ _ _ h => h) (by rfl) ?y77 (by assumption) ?_
    case y77 => intro w hSw; (try dsimp only at hSw); go_simp; try with_reducible rfl
    simp only [sE0, sE1]
    refine take_to 8 26 (bQ 9 511) (v := ?_) ops_15_7_8 rfl ops_15_7_ns (by kernel_rfl) (by kernel_rfl) (fun _ _ _ h => h) (by rfl) ?y87 (by assumption) ?_
    case y87 => intro w hSw; (try dsimp only at hSw); go_simp; try with_reducible rfl
    simp only [sE0, sE1]
    refine wpAnyH_done (by kernel_rfl) ?_ _
    have hb7 := hHeld.1
    obtain ⟨-, d0, d1, d2, d3⟩ := hHeld
    cases hq : beqS f.slot s.key
    ·rw [hq] at e1
     have Hv := Lib.hid (Hslot.out hq)
     clear hq d0 d1 d2 d3
     go_wp2_with fail
     go_ret
     exact ⟨ret_int (by rw [Hhit.out (by rw [Hv.out]; decide), Hv.out]), below_step hbW hb7⟩
    ·rw [hq] at e1
     by_cases hz : f.who.size = 0
     ·have e2 : f.who.toList.isEmpty = true := by rw [empty_of]; exact decide_eq_true hz
      have Hv := Lib.hid (Hempty.out hq hz)
      clear hq hz d0 d2 d3
      go_wp2_with fail
      go_roundw
      case rel => exact ⟨k + 1, by omega, by go_num, Lib.hid (Hnext.out Hv.out), below_step hbW hb7⟩
      case measure => simp [intOf]; omega
     ·have e2 : f.who.toList.isEmpty = false := by rw [empty_of]; exact decide_eq_false hz
      have Hv := Lib.hid (Hrest.out hq hz)
      clear hq hz
      rcases Hkv.out with ⟨rfl, hkn⟩ | ⟨q, rfl, hcq, hkn⟩
      ·rw [hkn] at Hv
       clear hkn d0 d2 d3
       go_wp2_with fail
       go_ret
       exact ⟨ret_int (by rw [Hhit.out (by rw [Hv.out]; simp [firstE, unlessE]), Hv.out]; simp [firstE, unlessE]), below_step hbW hb7⟩
      ·rw [hkn] at Hv
       have Hcq := Lib.hid hcq
       have hqn : q < cs.length := (List.getElem?_eq_some_iff.1 hcq).1
       have hqn' : (q : Int) < (cs.length : Int) := by omega
       have CF := Lib.hid (containsFi_calls 60 #[.pointer (some ⟨X, 0, none⟩)] (fun o => beqS o.who f.who) lo3 _ (fs.take k) _ ((fis_take HF.out rfl (by omega : k ≤ fs.length)).below (below_step hbW hb7)) (by intro args w; go_simp) (fun V o hb => fillsFault1_calls o f.who X V (below_cell hb d1)))
       rw [show (fs.take k).any (fun o => beqS o.who f.who) = inF (fs.take k) f.who from rfl] at CF
       generalize inF (fs.take k) f.who = fb at CF Hv
       clear hkn hcq d0 d2 d3
       go_wp2_with fail
       refine CF.out.mono ?_
       rintro e w8 ⟨rfl, hb8⟩
       clear CF
       cases fb
       ·rcases scs_at HC.out with ⟨_, h⟩ | ⟨cg, coff, ccap, e, _, hcg, _, hcell⟩
        ·have := Hcq.out; rw [h] at this; simp at this
        simp only [Value.slice.injEq] at e
        obtain ⟨rfl, -, rfl⟩ := e
        generalize fndC cs f.who = Fc at Hv Hcq
        obtain ⟨cv, r0, r1, r2, r3, r4, hcv⟩ := hcell q Fc Hcq.out
        have Hcv := Lib.hid hcv
        obtain ⟨xa, xc, rfl⟩ := strs_shape hcv
        have hb78 := below_step hb7 hb8
        have hbw8 := below_step hbW hb78
        have HR := Lib.hid (show ∀ w', Below w8.heap.size w8 w' → (Below w8.heap.size w8 w' ∧ w'.cell? ⟨g', off' + k * 2, none⟩ = some (.string s.key) ∧ w'.cell? ⟨g', off' + k * 2 + 1, none⟩ = some (.slice pa s.pos.length pc) ∧ w'.cell? ⟨cg, coff + q * 5, none⟩ = some (.string Fc.who) ∧ w'.cell? ⟨cg, coff + q * 5 + 1, none⟩ = some (.slice xa Fc.pos.length xc) ∧ w'.cell? ⟨cg, coff + q * 5 + 2, none⟩ = some (.int .i64 Fc.num) ∧ w'.cell? ⟨cg, coff + q * 5 + 3, none⟩ = some (.int .i64 Fc.den) ∧ w'.cell? ⟨cg, coff + q * 5 + 4, none⟩ = some (.bool Fc.played)) from fun w' hb => ⟨hb, (HS7.out _ (below_step hb78 hb)).2.2.2.1, (HS7.out _ (below_step hb78 hb)).2.2.2.2, below_cell hb (below_cell hbw8 r0), below_cell hb (below_cell hbw8 r1), below_cell hb (below_cell hbw8 r2), below_cell hb (below_cell hbw8 r3), below_cell hb (below_cell hbw8 r4)⟩)
        have hb0 := (Below.refl w8.heap.size w8).drew
        clear r0 r1 r2 r3 r4 hcv hcell
        go_upto_region 14 with fail
        show Code.wp _ (Code.region 14 ops_15_14 true) _ _ _
        refine region_start 11 (fun w' => Below w8.heap.size w8 w' ∧ w'.cell? ⟨g', off' + k * 2, none⟩ = some (.string s.key) ∧ w'.cell? ⟨g', off' + k * 2 + 1, none⟩ = some (.slice pa s.pos.length pc) ∧ w'.cell? ⟨cg, coff + q * 5, none⟩ = some (.string Fc.who) ∧ w'.cell? ⟨cg, coff + q * 5 + 1, none⟩ = some (.slice xa Fc.pos.length xc) ∧ w'.cell? ⟨cg, coff + q * 5 + 2, none⟩ = some (.int .i64 Fc.num) ∧ w'.cell? ⟨cg, coff + q * 5 + 3, none⟩ = some (.int .i64 Fc.den) ∧ w'.cell? ⟨cg, coff + q * 5 + 4, none⟩ = some (.bool Fc.played)) (by kernel_rfl) rfl ?_ (fun hHeld => ?_)
        ·(exact HR.out _ (by first | assumption | exact hHeld.1 | exact below_step hHeld.1 (by assumption) | exact below_step hHeld.1 (below_alloc _ _)))
        refine take_to 0 49 (bQ 11 1) (v := ?_) ops_15_14_0 rfl ops_15_14_ns (by kernel_rfl) (by kernel_rfl) (fun _ _ _ h => h) (by rfl) ?y0e (by assumption) ?_
        case y0e => intro w hSw; (try dsimp only at hSw); go_simp; try with_reducible rfl
        simp only [sE0, sE1]
        refine take_to 1 50 (bQ 11 3) (v := ?_) ops_15_14_1 rfl ops_15_14_ns (by kernel_rfl) (by kernel_rfl) (fun _ _ _ h => h) (by rfl) ?y1e (by assumption) ?_
        case y1e => intro w hSw; (try dsimp only at hSw); go_simp; try with_reducible rfl
        simp only [sE0, sE1]
        refine take_to 2 51 (bQ 11 7) (v := ?_) ops_15_14_2 rfl ops_15_14_ns (by kernel_rfl) (by kernel_rfl) (fun _ _ _ h => h) (by rfl) ?y2e (by assumption) ?_
        case y2e => intro w hSw; (try dsimp only at hSw); go_simp; try with_reducible rfl
        simp only [sE0, sE1]
        refine take_to 3 52 (bQ 11 15) (v := ?_) ops_15_14_3 rfl ops_15_14_ns (by kernel_rfl) (by kernel_rfl) (fun _ _ _ h => h) (by rfl) ?y3e (by assumption) ?_
        case y3e => intro w hSw; (try dsimp only at hSw); go_simp; try with_reducible rfl
        simp only [sE0, sE1]
        refine take_to 4 53 (bQ 11 31) (v := ?_) ops_15_14_4 rfl ops_15_14_ns (by kernel_rfl) (by kernel_rfl) (fun _ _ _ h => h) (by rfl) ?y4e (by assumption) ?_
        case y4e => intro w hSw; (try dsimp only at hSw); go_simp; try with_reducible rfl
        simp only [sE0, sE1]
        refine take_to 5 54 (bQ 11 63) (v := ?_) ops_15_14_5 rfl ops_15_14_ns (by kernel_rfl) (by kernel_rfl) (fun _ _ _ h => h) (by rfl) ?y5e (by assumption) ?_
        case y5e => intro w hSw; (try dsimp only at hSw); go_simp; try with_reducible rfl
        simp only [sE0, sE1]
        refine take_to 6 55 (bQ 11 127) (v := ?_) ops_15_14_6 rfl ops_15_14_ns (by kernel_rfl) (by kernel_rfl) (fun _ _ _ h => h) (by rfl) ?y6e (by assumption) ?_
        case y6e => intro w hSw; (try dsimp only at hSw); go_simp; try with_reducible rfl
        simp only [sE0, sE1]
        refine take_to 7 56 (bQ 11 255) (v := ?_) ops_15_14_7 rfl ops_15_14_ns (by kernel_rfl) (by kernel_rfl) (fun _ _ _ h => h) (by rfl) ?y7e (by assumption) ?_
        case y7e => intro w hSw; (try dsimp only at hSw); go_simp; try with_reducible rfl
        simp only [sE0, sE1]
        refine run_to 8 (bQ 11 511) ops_15_14_8 (by kernel_rfl) (by kernel_rfl) (by rfl) (fun K hK => ?_)
        go_simp
        refine (fit_calls _ _ (.slice xa Fc.pos.length xc) (.slice pa s.pos.length pc) Fc s _ (Hcv.out.below (hbw8.trans (hHeld.1.mono hbw8.size))) (Hpv.out.below (hbw8.trans (hHeld.1.mono hbw8.size)))).mono ?_
        rintro e w' ⟨rfl, hb⟩
        go_wp2_with fail
        refine hK.out _ _ ?_ (fun hHeld => ?_)
        ·(exact HR.out _ (by first | assumption | exact hHeld.1 | exact below_step hHeld.1 (by assumption) | exact below_step hHeld.1 (below_alloc _ _)))
        clear hK K
        try simp only [Act.put, sEt, sE0, sE1]
        refine take_to 9 58 (bQ 11 1023) (v := ?_) ops_15_14_9 rfl ops_15_14_ns (by kernel_rfl) (by kernel_rfl) (fun _ _ _ h => h) (by rfl) ?y9e (by assumption) ?_
        case y9e => intro w hSw; (try dsimp only at hSw); go_simp; try with_reducible rfl
        simp only [sE0, sE1]
        refine take_to 10 48 (bQ 11 2047) (v := ?_) ops_15_14_10 rfl ops_15_14_ns (by kernel_rfl) (by kernel_rfl) (fun _ _ _ h => h) (by rfl) ?y10e (by assumption) ?_
        case y10e => intro w hSw; (try dsimp only at hSw); go_simp; try with_reducible rfl
        simp only [sE0, sE1]
        refine wpAnyH_done (by kernel_rfl) ?_ _
        have hb9 := hHeld.1
        clear hHeld
        rw [← suit_fit]
        cases hsu : suitB Fc s
        ·rw [hsu] at Hv
         clear hsu
         go_wp2_with fail
         go_ret
         exact ⟨ret_int (by rw [Hhit.out (by rw [Hv.out]; simp [firstE, unlessE]), Hv.out]; simp [firstE, unlessE]), below_step hbw8 hb9⟩
        ·rw [hsu] at Hv
         clear hsu
         go_wp2_with fail
         go_roundw
         case rel => exact ⟨k + 1, by omega, by go_num, Lib.hid (Hnext.out (by rw [Hv.out]; simp [firstE, unlessE])), below_step hbw8 hb9⟩
         case measure => simp [intOf]; omega
       ·clear d1
        go_wp2_with fail
        go_ret
        exact ⟨ret_int (by rw [Hhit.out (by rw [Hv.out]; simp [firstE, unlessE]), Hv.out]; simp [firstE, unlessE]), below_step (below_step hbW hb7) hb8⟩
   ·obtain rfl : k = fs.length := by omega
    have Hnone := Lib.hid (show eachE fs.length fs.length (chF ss cs fs) = 0 from eachE_none Hm.out H0.out)
    go_wp2_with fail
    go_ret
    exact ⟨ret_int Hnone.out.symm, hb⟩
 ·have HE := Lib.hid (show fiE ss cs fs = 3 by unfold fiE; rw [if_neg hl])
  have hne : ((fs.length : Int) != (ss.length : Int)) = true := by simp; omega
  rw [HE.out]
  clear hl
  go_enter Tryz.func15, Tryz.ntmps15
  go_wp2_with fail
  go_ret
  exact ⟨rfl, Below.refl _ _⟩
end Go.Proofs.YtfcaokpadodijaaGreat
/- Subbed: who comes in from the bench. -/
namespace Go.Proofs.YtfcaokpadodijaaGreat
open Go.RowKit

theorem first2_zero {a b : Int} (h : firstE [a, b] = 0) : a = 0 ∧ b = 0 := by
 unfold firstE at h
 by_cases ha : a = 0
 ·refine ⟨ha, ?_⟩
  unfold firstE at h
  by_cases hb : b = 0
  ·exact hb
  ·simp [ha, hb] at h
 ·simp [ha] at h
theorem chk_len {ss : List SlD} {cs : List ScD} {fs : List FiD} (h : chkFi ss cs fs = 0) : fs.length = ss.length ∧ 0 < ss.length ∧ sdE ss cs = 0 := by
 unfold chkFi at h
 split at h
 ·rename_i h0
  obtain ⟨h1, h2⟩ := first2_zero h0
  refine ⟨?_, ?_, h1⟩
  ·by_cases hl : fs.length = ss.length
   ·exact hl
   ·have e : ((fs.length : Int) == (ss.length : Int)) = false := by rw [beq_eq_false_iff_ne]; omega
    rw [e] at h2
    simp [unlessE] at h2
  ·have h3 := (first2_zero (first2_zero h1).1).1
   by_cases hl : 0 < ss.length
   ·exact hl
   ·rw [decide_eq_false hl] at h3
    simp [unlessE] at h3
 ·rename_i h0
  exact absurd h h0
theorem below_set {b X o : Nat} {w w' : World} (h : Below b w w') (hX : b ≤ X) (a : Value) : Below b w (w'.setCell ⟨X, o, none⟩ a) := h.setCell (p := ⟨X, o, none⟩) hX a
end Go.Proofs.YtfcaokpadodijaaGreat
/- slices.Compare at strings. -/
namespace Go.Proofs.YtfcaokpadodijaaGreat
open Go.RowKit

def cmpStr (a b : ByteArray) : Int := if ltS a b then -1 else if ltS b a then 1 else 0
theorem nanS_calls (a : ByteArray) (w : World) : Calls Tryz.prog 146 #[.string a] w fun e w' => e = .returned (.bool false) ∧ w' = w := by
 go_enter Tryz.func146, Tryz.ntmps146
 go_wp2_with fail
 go_ret
 exact ⟨ret_bool (by simp), rfl⟩
set_option maxRecDepth 100000 in
theorem cmpStr_calls (a b : ByteArray) (w : World) : Calls Tryz.prog 134 #[.string a, .string b] w fun e w' => e = .returned (.int .i64 (cmpStr a b)) ∧ w' = w := by
 have HC := Lib.hid (show cmpStr a b = if ltS a b then -1 else if ltS b a then 1 else 0 from rfl)
 have C := Lib.hid (fun x => nanS_calls x w)
 generalize cmpStr a b = r at HC ⊢
 go_enter Tryz.func134, Tryz.ntmps134
 go_wp2_with fail
 refine (C.out _).mono ?_
 rintro e w' ⟨rfl, rfl⟩
 go_wp2_with fail
 refine (C.out _).mono ?_
 rintro e w' ⟨rfl, rfl⟩
 by_cases h1 : ltS a b = true
 ·have e1 : Op.bytesLess a.toList b.toList = true := h1
  obtain rfl : r = -1 := by rw [HC.out, if_pos h1]
  clear h1
  go_wp2_with fail
  go_ret
  exact ⟨rfl, rfl⟩
 ·have h1' : ltS a b = false := by cases h : ltS a b <;> simp_all
  have e1 : Op.bytesLess a.toList b.toList = false := h1'
  by_cases h2 : beqS a b = true
  ·have e2 : (a.toList == b.toList) = true := h2
   have h3 : ltS b a = false := by have := leS_eq a b; rw [e1, e2] at this; simpa using this.symm
   obtain rfl : r = 0 := by rw [HC.out, if_neg h1, h3]; rfl
   clear h1 h1' h2 h3
   go_wp2_with fail
   go_ret
   exact ⟨rfl, rfl⟩
  ·have h2' : beqS a b = false := by cases h : beqS a b <;> simp_all
   have e2 : (a.toList == b.toList) = false := h2'
   obtain rfl : r = 1 := by rw [HC.out, if_neg h1, if_pos (ltS_or h1' h2')]
   clear h1 h1' h2 h2'
   go_wp2_with fail
   go_ret
   exact ⟨rfl, rfl⟩
def cmpL : List ByteArray → List ByteArray → Int
 | [], [] => 0
 | [], _ :: _ => -1
 | _ :: _, [] => 1
 | a :: x, b :: y => if cmpStr a b = 0 then cmpL x y else cmpStr a b
theorem cmpL_end (ys : List ByteArray) : cmpL [] ys = if 0 < ys.length then -1 else 0 := by cases ys <;> simp [cmpL]
set_option maxRecDepth 100000 in
set_option maxHeartbeats 2000000 in
theorem compareS_calls (lo lo' : Nat) (v u : Value) (xs ys : List ByteArray) (w : World) (hx : Strs w lo v xs) (hy : Strs w lo' u ys) :
  Calls Tryz.prog 111 #[v, u] w fun e w' => e = .returned (.int .i64 (cmpL xs ys)) ∧ w' = w := by
 have HX := Lib.hid hx
 have HY := Lib.hid hy
 have hnx : xs.length ≤ 1000000 := by rcases strs_at hx with ⟨_, rfl⟩ | ⟨_, _, _, _, _, _, h, _⟩ <;> simp_all
 have hny : ys.length ≤ 1000000 := by rcases strs_at hy with ⟨_, rfl⟩ | ⟨_, _, _, _, _, _, h, _⟩ <;> simp_all
 obtain ⟨a, c, rfl⟩ := strs_shape hx
 obtain ⟨a', c', rfl⟩ := strs_shape hy
 obtain ⟨r, hr⟩ : ∃ r, cmpL xs ys = r := ⟨_, rfl⟩
 rw [hr]
 have Hr := Lib.hid hr
 clear hx hy hr
 go_enter Tryz.func111, Tryz.ntmps111
 go_wp2_with fail
 go_loop [11] (fun i => ∃ k : Nat, k ≤ xs.length ∧ k ≤ ys.length ∧ i = .int .i64 k ∧ Hid (cmpL (xs.drop k) (ys.drop k) = r)) (fun i => xs.length - (intOf i).toNat)
 case atStart => exact ⟨0, Nat.zero_le _, Nat.zero_le _, rfl, Lib.hid (by simpa using Hr.out)⟩
 case round =>
  obtain ⟨k, hk, hky, rfl, H⟩ := hrel
  by_cases hlt : k < xs.length
  ·obtain ⟨x, hx⟩ : ∃ x, xs[k]? = some x := ⟨_, List.getElem?_eq_getElem hlt⟩
   have ex : xs.drop k = x :: xs.drop (k + 1) := by rw [List.drop_eq_getElem_cons hlt, (List.getElem?_eq_some_iff.1 hx).2]
   rcases strs_at HX.out with ⟨_, h⟩ | ⟨g, off, cap, e, _, _, _, hcell⟩
   ·rw [h] at hlt; simp at hlt
   simp only [Value.slice.injEq] at e
   obtain ⟨rfl, -, rfl⟩ := e
   have x0 := hcell k x hx
   by_cases hly : k < ys.length
   ·obtain ⟨y, hy⟩ : ∃ y, ys[k]? = some y := ⟨_, List.getElem?_eq_getElem hly⟩
    have ey : ys.drop k = y :: ys.drop (k + 1) := by rw [List.drop_eq_getElem_cons hly, (List.getElem?_eq_some_iff.1 hy).2]
    rcases strs_at HY.out with ⟨_, h⟩ | ⟨g', off', cap', e, _, _, _, hcell'⟩
    ·rw [h] at hly; simp at hly
    simp only [Value.slice.injEq] at e
    obtain ⟨rfl, -, rfl⟩ := e
    have y0 := hcell' k y hy
    have Hs := Lib.hid (show (if cmpStr x y = 0 then cmpL (xs.drop (k + 1)) (ys.drop (k + 1)) else cmpStr x y) = r by have := H.out; rw [ex, ey] at this; exact this)
    have n1 : decide ((ys.length : Int) ≤ (k : Int)) = false := decide_eq_false (by omega)
    have C := Lib.hid (cmpStr_calls x y w)
    generalize cmpStr x y = q at Hs C
    clear hcell hcell' hx hy ex ey
    go_wp2_with fail
    refine C.out.mono ?_
    rintro e w' ⟨rfl, rfl⟩
    by_cases hq : q = 0
    ·have Hn := Lib.hid (show cmpL (xs.drop (k + 1)) (ys.drop (k + 1)) = r by have := Hs.out; rwa [if_pos hq] at this)
     subst hq
     go_wp2_with fail
     go_round
     case rel => exact ⟨k + 1, by omega, by omega, by go_num, Hn⟩
     case measure => simp [intOf]; omega
    ·have Hn := Lib.hid (show q = r by have := Hs.out; rwa [if_neg hq] at this)
     have q1 : (q != 0) = true := by simp [hq]
     clear hq
     go_wp2_with fail
     go_ret
     exact ⟨ret_int Hn.out, rfl⟩
   ·obtain rfl : k = ys.length := by omega
    have Hn := Lib.hid (show (1 : Int) = r by have := H.out; rw [ex, List.drop_length] at this; exact this)
    clear hcell hx ex hly
    go_wp2_with fail
    go_ret
    exact ⟨ret_int Hn.out, rfl⟩
  ·obtain rfl : k = xs.length := by omega
   have Hn := Lib.hid (show (if xs.length < ys.length then (-1 : Int) else 0) = r by
    have := H.out
    rw [List.drop_length, cmpL_end, List.length_drop] at this
    rw [← this]
    by_cases h : xs.length < ys.length
    ·rw [if_pos h, if_pos (by omega)]
    ·rw [if_neg h, if_neg (by omega)])
   by_cases h : xs.length < ys.length
   ·have Hm := Lib.hid (show (-1 : Int) = r by have := Hn.out; rwa [if_pos h] at this)
    go_wp2_with fail
    go_ret
    exact ⟨ret_int Hm.out, rfl⟩
   ·have Hm := Lib.hid (show (0 : Int) = r by have := Hn.out; rwa [if_neg h] at this)
    go_wp2_with fail
    go_ret
    exact ⟨ret_int Hm.out, rfl⟩
end Go.Proofs.YtfcaokpadodijaaGreat
/- slices.DeleteFunc at strings with any predicate. -/
namespace Go.Proofs.YtfcaokpadodijaaGreat
open Go.RowKit

theorem filter_take_firstS {α : Type} {p : α → Bool} {fs : List α} {i : Nat} {f : α} (hf : fs[i]? = some f) (hpf : p f = true) (h0 : ∀ j g, j < i → fs[j]? = some g → p g = false) : (fs.take (i + 1)).filter (fun g => !p g) = fs.take i := by
 have hi := (List.getElem?_eq_some_iff.1 hf).1
 have e : fs.take (i + 1) = fs.take i ++ [f] := by
  rw [List.take_succ_eq_append_getElem hi, (List.getElem?_eq_some_iff.1 hf).2]
 rw [e, List.filter_append]
 simp only [List.filter_cons, hpf, Bool.not_true, Bool.false_eq_true, if_false, List.filter_nil, List.append_nil]
 rw [List.filter_eq_self]
 intro g hg
 obtain ⟨j, hj⟩ := List.getElem?_of_mem hg
 rw [List.getElem?_take] at hj
 split at hj
 ·rename_i hji
  rw [h0 j g hji hj]; rfl
 ·cases hj
theorem filter_snocS {α : Type} (p : α → Bool) {l : List α} {k : Nat} {x : α} (hk : l[k]? = some x) : (l.take (k + 1)).filter p = (l.take k).filter p ++ (if p x then [x] else []) := by
 have hlt : k < l.length := (List.getElem?_eq_some_iff.1 hk).1
 have e : l.take (k + 1) = l.take k ++ [x] := by
  rw [List.take_succ_eq_append_getElem hlt, (List.getElem?_eq_some_iff.1 hk).2]
 rw [e, List.filter_append]
 cases hp : p x <;> simp [hp]
end Go.Proofs.YtfcaokpadodijaaGreat
/- What scorers are worth, and those in slots together. -/
namespace Go.Proofs.YtfcaokpadodijaaGreat
open Go.RowKit

/-- A scorer's points in hundredths. -/
def ptH (c : ScD) : Int := c.num * ((100 : Int).tdiv c.den)
/-- .. and 0 for nobody. -/
def wthC (c : ScD) : Int := if c.who.size = 0 then 0 else ptH c
def FitW (c : ScD) : Prop := c.who.size ≠ 0 → 0 < c.den ∧ c.den ≤ 100 ∧ -1000000 ≤ ptH c ∧ ptH c ≤ 1000000
theorem wth_small {c : ScD} (h : FitW c) : -1000000 ≤ wthC c ∧ wthC c ≤ 1000000 := by
 unfold wthC
 split
 ·omega
 ·rename_i hz
  have := h hz
  omega
theorem fitH_of {n d : Int} (h : wrongF n d 10000 = 0) : 0 < d ∧ d ≤ 100 ∧ -1000000 ≤ n * ((100 : Int).tdiv d) ∧ n * ((100 : Int).tdiv d) ≤ 1000000 := by
 unfold wrongF at h
 split at h
 ·simp at h
 ·rename_i h1
  split at h
  ·simp at h
  ·rename_i h2
   have hd : 0 < d := by
    rcases Int.lt_or_le 0 d with h | h
    ·exact h
    ·exact absurd (Or.inl h) h1
   have hm : (100 : Int) % d = 0 := by
    by_cases hm : (100 : Int) % d = 0
    ·exact hm
    ·exact absurd (Or.inl hm) h2
   have hr : -10000 * d ≤ n ∧ n ≤ 10000 * d := by
    by_cases hr : -10000 * d ≤ n ∧ n ≤ 10000 * d
    ·exact hr
    ·exact absurd (Or.inr hr) h2
   have hd100 := den_100 hm
   refine ⟨hd, hd100, ?_⟩
   have hq : d * ((100 : Int).tdiv d) = 100 := by
    have h1 := Int.mul_tdiv_add_tmod 100 d
    have h2 : (100 : Int).tmod d = 0 := by rw [Int.tmod_eq_emod_of_nonneg (by omega)]; exact hm
    omega
   have hq0 : 0 ≤ (100 : Int).tdiv d := Int.tdiv_nonneg (by omega) (by omega)
   generalize (100 : Int).tdiv d = q at hq hq0 ⊢
   have e1 : n * q ≤ 10000 * d * q := Int.mul_le_mul_of_nonneg_right hr.2 hq0
   have e2 : -10000 * d * q ≤ n * q := Int.mul_le_mul_of_nonneg_right hr.1 hq0
   have e3 : 10000 * d * q = 1000000 := by rw [Int.mul_assoc, hq]; rfl
   have e4 : -10000 * d * q = -1000000 := by rw [Int.mul_assoc, hq]; rfl
   omega
set_option maxHeartbeats 1000000 in
theorem wrth_calls (c : ScD) (xa : Option Addr) (n xc : Nat) (w : World) (hf : FitW c) :
  Calls Tryz.prog 52 #[.agg #[.string c.who, .slice xa n xc, .int .i64 c.num, .int .i64 c.den, .bool c.played]] w (IntBelow (wthC c) w) := by
 by_cases hz : c.who.size = 0
 ·have HW := Lib.hid (show wthC c = 0 by unfold wthC; rw [if_pos hz])
  have e2 : c.who.toList.isEmpty = true := by rw [empty_of]; exact decide_eq_true hz
  clear hz hf
  go_enter Tryz.func52, Tryz.ntmps52
  go_wp2_with fail
  go_ret
  exact ⟨ret_int HW.out.symm, below_alloc w _⟩
 ·have HW := Lib.hid (show wthC c = ptH c by unfold wthC; rw [if_neg hz])
  have e2 : c.who.toList.isEmpty = false := by rw [empty_of]; exact decide_eq_false hz
  obtain ⟨h1, h2, h3, h4⟩ := hf hz
  have HC := Lib.hid (fun w' => hundredths_calls c.num c.den w' h1 (show Int64 (ptH c) by unfold Int64; omega) h2)
  clear hz hf h1 h2 h3 h4
  go_enter Tryz.func52, Tryz.ntmps52
  go_wp2_with fail
  refine (HC.out _).mono ?_
  rintro e w1 ⟨rfl, hb⟩
  go_wp2_with fail
  go_ret
  exact ⟨ret_int (by rw [HW.out]; rfl), below_step (below_alloc w _) hb⟩
def sumTo (f : Nat → Int) : Nat → Int
 | 0 => 0
 | k + 1 => sumTo f k + f k
theorem sumTo_small {f : Nat → Int} (h : ∀ i, -1000000 ≤ f i ∧ f i ≤ 1000000) : ∀ k : Nat, -(1000000 * (k : Int)) ≤ sumTo f k ∧ sumTo f k ≤ 1000000 * (k : Int)
 | 0 => by simp [sumTo]
 | k + 1 => by
  have h1 := sumTo_small h k
  have h2 := h k
  unfold sumTo
  rw [Int.natCast_add]
  omega
def wthAt (cs : List ScD) (fs : List FiD) (i : Nat) : Int := wthC (fndC cs (fiAt fs i).who)
def sumFi (cs : List ScD) (fs : List FiD) : Int := sumTo (wthAt cs fs) fs.length
theorem fit_fnd {cs : List ScD} (h : ∀ c ∈ cs, FitW c) (k : ByteArray) : FitW (fndC cs k) := by
 unfold fndC
 split
 ·rename_i hk
  have hl := known_lt hk
  rw [List.length_map] at hl
  rw [List.getElem?_eq_getElem hl]
  exact h _ (List.getElem_mem hl)
 ·intro hz
  exact absurd rfl hz
set_option maxRecDepth 100000 in
set_option maxHeartbeats 4000000 in
theorem sum_calls (lo lo' : Nat) (v u : Value) (cs : List ScD) (fs : List FiD) (w : World) (hC : Scs w lo v cs) (hlo : lo ≤ w.heap.size) (hF : Fis w lo' u fs) (hn : fs.length ≤ 1000000) (hfit : ∀ c ∈ cs, FitW c) :
  Calls Tryz.prog 51 #[v, u] w (IntBelow (sumFi cs fs) w) := by
 have HC := Lib.hid hC
 have HF := Lib.hid hF
 have Hfit := Lib.hid (fit_fnd hfit)
 have Hsm := Lib.hid (sumTo_small (f := wthAt cs fs) (fun i => wth_small (Hfit.out _)))
 obtain ⟨ca, cc, rfl⟩ := NRows.shape hC
 obtain ⟨fa, fc, rfl⟩ := fis_shape hF
 clear hC hF hfit
 go_enter Tryz.func51, Tryz.ntmps51
 go_wp2_with fail
 go_loopw [5, 12] (fun s i wr => ∃ k : Nat, k ≤ fs.length ∧ i = .int .i64 k ∧ s = .int .i64 (sumTo (wthAt cs fs) k) ∧ Below w.heap.size w wr) (fun _ i _ => fs.length - (intOf i).toNat)
 case atStart => exact ⟨0, Nat.zero_le _, rfl, rfl, Below.refl _ _⟩
 case round =>
  obtain ⟨k, hk, rfl, rfl, hb⟩ := hrel
  by_cases hlt : k < fs.length
  ·obtain ⟨f, hf⟩ : ∃ f, fs[k]? = some f := ⟨_, List.getElem?_eq_getElem hlt⟩
   rcases fis_at HF.out with ⟨_, h⟩ | ⟨g, off, cap, e, _, hg, _, hcell⟩
   ·rw [h] at hlt; simp at hlt
   simp only [Value.slice.injEq] at e
   obtain ⟨rfl, -, rfl⟩ := e
   obtain ⟨q0, q1⟩ := hcell k f hf
   have q0 := below_cell hb q0
   have q1 := below_cell hb q1
   have hlt' : (k : Int) < (fs.length : Int) := by omega
   have CF := Lib.hid (fun w' (hb' : Below w.heap.size w w') => find_calls lo _ cs f.who w' (NRows.below HC.out hb') (Nat.le_trans hlo hb'.size))
   have HW := Lib.hid (show wthAt cs fs k = wthC (fndC cs f.who) by unfold wthAt; rw [fiAt_some hf])
   have hfw := Hfit.out f.who
   have HN := Lib.hid (show sumTo (wthAt cs fs) (k + 1) = sumTo (wthAt cs fs) k + wthAt cs fs k from rfl)
   have hs1 := Hsm.out k
   have hs2 := wth_small hfw
   generalize knownB (cs.map ScD.who) f.who = KB at CF
   generalize fndC cs f.who = Fc at CF HW hfw hs2
   generalize sumTo (wthAt cs fs) k = S at HN hs1 ⊢
   clear hcell hf
   go_wp2_with fail
   refine (CF.out _ (below_step hb (below_alloc wr _))).mono ?_
   rintro e w1 ⟨x, rfl, hx, hb1⟩
   obtain ⟨xa, xc, rfl⟩ := strs_shape hx
   clear hx CF
   go_wp2_with fail
   refine (wrth_calls Fc xa _ xc _ hfw).mono ?_
   rintro e w2 ⟨rfl, hb2⟩
   go_wp2_with fail
   go_roundw
   case rel => exact ⟨k + 1, by omega, by go_num, by rw [HN.out, HW.out], below_step (below_step (below_step (below_step hb (below_alloc wr _)) hb1) (below_alloc w1 _)) hb2⟩
   case measure => simp [intOf]; omega
  ·obtain rfl : k = fs.length := by omega
   go_wp2_with fail
   go_ret
   exact ⟨rfl, hb⟩
end Go.Proofs.YtfcaokpadodijaaGreat
/- Who comes first among the winners. -/
namespace Go.Proofs.YtfcaokpadodijaaGreat
open Go.RowKit

set_option maxRecDepth 100000 in
set_option maxHeartbeats 1000000 in
theorem orI_calls (g off cap : Nat) (xs : List Int) (w : World) (hn : xs.length ≤ 1000000) (hc : NumsAt w g off xs) :
  Calls Tryz.prog 129 #[.slice (some ⟨g, off, none⟩) xs.length cap] w fun e w' => e = .returned (.int .i64 (firstE xs)) ∧ w = w' := by
 have Hc := Lib.hid hc
 clear hc
 go_enter Tryz.func129, Tryz.ntmps129
 go_wp2_with fail
 go_loop [8] (fun i => ∃ k : Nat, k ≤ xs.length ∧ i = .int .i64 k ∧ Hid (∀ (i : Nat) (y : Int), i < k → xs[i]? = some y → y = 0)) (fun i => xs.length - (intOf i).toNat)
 case atStart => exact ⟨0, Nat.zero_le _, rfl, Lib.hid fun i y hi => by omega⟩
 case round =>
  obtain ⟨k, hk, rfl, H0⟩ := hrel
  by_cases hlt : k < xs.length
  ·obtain ⟨x, hx⟩ : ∃ x, xs[k]? = some x := ⟨xs[k], List.getElem?_eq_getElem hlt⟩
   have hcell := Hc.out k x hx
   have Hx := Lib.hid hx
   clear hx
   by_cases hz : x = 0
   ·subst hz
    go_wp2_with fail
    go_round
    case rel => exact ⟨k + 1, by omega, by go_num, Lib.hid fun i y hi hy => by
     rcases Nat.lt_succ_iff_lt_or_eq.1 hi with h | rfl
     ·exact H0.out i y h hy
     ·rw [Hx.out] at hy; exact (Option.some.inj hy).symm⟩
    case measure => simp [intOf]; omega
   ·have e1 : (x != 0) = true := by simp [hz]
    have Hz := Lib.hid hz
    clear hz
    go_wp2_with fail
    go_ret
    exact ⟨ret_int (firstE_hit Hx.out H0.out Hz.out).symm, rfl⟩
  ·obtain rfl : k = xs.length := by omega
   go_wp2_with fail
   go_ret
   exact ⟨ret_int (firstE_none fun i y hy => H0.out i y (List.getElem?_eq_some_iff.1 hy).1 hy).symm, rfl⟩


/-- Which of two comes first: who is worth more, else the lesser number. -/
def wcmp (cs : List ScD) (a b : Nat) : Int := firstE [Lib.compareInt (wthC (scAt cs b)) (wthC (scAt cs a)), Lib.compareInt (a : Int) (b : Int)]
def ops_128_1 : Array Go.Oper := #[
 ⟨some 6, .load 28 (.tmp 2), 28, "best.go:139", #[], none⟩,
 ⟨some 7, .move (.tmp 1), 3, "best.go:139", #[], none⟩,
 ⟨some 8, .indexAddr 28 (.tmp 6) (.tmp 7), 0, "best.go:139", #[⟨0, .data⟩, ⟨1, .data⟩], none⟩,
 ⟨some 9, .load 77 (.tmp 8), 77, "best.go:139", #[⟨2, .data⟩], none⟩,
 ⟨some 10, .call { callee := .value (.func 52), args := #[.tmp 9], argTypes := #[77] }, 3, "best.go:139", #[⟨3, .data⟩], none⟩,
 ⟨some 11, .load 28 (.tmp 2), 28, "best.go:139", #[], none⟩,
 ⟨some 12, .move (.tmp 0), 3, "best.go:139", #[], none⟩,
 ⟨some 13, .indexAddr 28 (.tmp 11) (.tmp 12), 0, "best.go:139", #[⟨5, .data⟩, ⟨6, .data⟩], none⟩,
 ⟨some 14, .load 77 (.tmp 13), 77, "best.go:139", #[⟨7, .data⟩], none⟩,
 ⟨some 15, .call { callee := .value (.func 52), args := #[.tmp 14], argTypes := #[77] }, 3, "best.go:139", #[⟨8, .data⟩, ⟨4, .chain⟩], none⟩,
 ⟨some 16, .call { callee := .value (.func 124), args := #[.tmp 10, .tmp 15], argTypes := #[3, 3] }, 3, "best.go:139", #[⟨4, .data⟩, ⟨9, .data⟩, ⟨9, .chain⟩], none⟩,
 ⟨some 17, .move (.tmp 0), 3, "best.go:139", #[], none⟩,
 ⟨some 18, .move (.tmp 1), 3, "best.go:139", #[], none⟩,
 ⟨some 19, .call { callee := .value (.func 124), args := #[.tmp 17, .tmp 18], argTypes := #[3, 3] }, 3, "best.go:139", #[⟨11, .data⟩, ⟨12, .data⟩, ⟨10, .chain⟩], none⟩,
 ⟨some 20, .buildSlice 22 2 #[(0, .tmp 16), (1, .tmp 19)], 22, "best.go:139", #[⟨10, .data⟩, ⟨13, .data⟩], none⟩,
 ⟨some 21, .call { callee := .value (.func 129), args := #[.tmp 20], argTypes := #[22] }, 3, "best.go:139", #[⟨14, .data⟩, ⟨13, .chain⟩], none⟩,
 ⟨some 5, .assign (.tmp 21), 3, "best.go:139", #[⟨15, .data⟩, ⟨15, .chain⟩, ⟨0, .phase⟩, ⟨1, .phase⟩, ⟨2, .phase⟩, ⟨3, .phase⟩, ⟨4, .phase⟩, ⟨5, .phase⟩, ⟨6, .phase⟩, ⟨7, .phase⟩, ⟨8, .phase⟩, ⟨9, .phase⟩, ⟨10, .phase⟩, ⟨11, .phase⟩, ⟨12, .phase⟩, ⟨13, .phase⟩, ⟨14, .phase⟩, ⟨15, .phase⟩], none⟩]
theorem ops_128_1_0 : ops_128_1[0]? = some (⟨some 6, .load 28 (.tmp 2), 28, "best.go:139", #[], none⟩ : Go.Oper) := rfl
theorem ops_128_1_1 : ops_128_1[1]? = some (⟨some 7, .move (.tmp 1), 3, "best.go:139", #[], none⟩ : Go.Oper) := rfl
theorem ops_128_1_2 : ops_128_1[2]? = some (⟨some 8, .indexAddr 28 (.tmp 6) (.tmp 7), 0, "best.go:139", #[⟨0, .data⟩, ⟨1, .data⟩], none⟩ : Go.Oper) := rfl
theorem ops_128_1_3 : ops_128_1[3]? = some (⟨some 9, .load 77 (.tmp 8), 77, "best.go:139", #[⟨2, .data⟩], none⟩ : Go.Oper) := rfl
theorem ops_128_1_4 : ops_128_1[4]? = some (⟨some 10, .call { callee := .value (.func 52), args := #[.tmp 9], argTypes := #[77] }, 3, "best.go:139", #[⟨3, .data⟩], none⟩ : Go.Oper) := rfl
theorem ops_128_1_5 : ops_128_1[5]? = some (⟨some 11, .load 28 (.tmp 2), 28, "best.go:139", #[], none⟩ : Go.Oper) := rfl
theorem ops_128_1_6 : ops_128_1[6]? = some (⟨some 12, .move (.tmp 0), 3, "best.go:139", #[], none⟩ : Go.Oper) := rfl
theorem ops_128_1_7 : ops_128_1[7]? = some (⟨some 13, .indexAddr 28 (.tmp 11) (.tmp 12), 0, "best.go:139", #[⟨5, .data⟩, ⟨6, .data⟩], none⟩ : Go.Oper) := rfl
theorem ops_128_1_8 : ops_128_1[8]? = some (⟨some 14, .load 77 (.tmp 13), 77, "best.go:139", #[⟨7, .data⟩], none⟩ : Go.Oper) := rfl
theorem ops_128_1_9 : ops_128_1[9]? = some (⟨some 15, .call { callee := .value (.func 52), args := #[.tmp 14], argTypes := #[77] }, 3, "best.go:139", #[⟨8, .data⟩, ⟨4, .chain⟩], none⟩ : Go.Oper) := rfl
theorem ops_128_1_10 : ops_128_1[10]? = some (⟨some 16, .call { callee := .value (.func 124), args := #[.tmp 10, .tmp 15], argTypes := #[3, 3] }, 3, "best.go:139", #[⟨4, .data⟩, ⟨9, .data⟩, ⟨9, .chain⟩], none⟩ : Go.Oper) := rfl
theorem ops_128_1_11 : ops_128_1[11]? = some (⟨some 17, .move (.tmp 0), 3, "best.go:139", #[], none⟩ : Go.Oper) := rfl
theorem ops_128_1_12 : ops_128_1[12]? = some (⟨some 18, .move (.tmp 1), 3, "best.go:139", #[], none⟩ : Go.Oper) := rfl
theorem ops_128_1_13 : ops_128_1[13]? = some (⟨some 19, .call { callee := .value (.func 124), args := #[.tmp 17, .tmp 18], argTypes := #[3, 3] }, 3, "best.go:139", #[⟨11, .data⟩, ⟨12, .data⟩, ⟨10, .chain⟩], none⟩ : Go.Oper) := rfl
theorem ops_128_1_14 : ops_128_1[14]? = some (⟨some 20, .buildSlice 22 2 #[(0, .tmp 16), (1, .tmp 19)], 22, "best.go:139", #[⟨10, .data⟩, ⟨13, .data⟩], none⟩ : Go.Oper) := rfl
theorem ops_128_1_15 : ops_128_1[15]? = some (⟨some 21, .call { callee := .value (.func 129), args := #[.tmp 20], argTypes := #[22] }, 3, "best.go:139", #[⟨14, .data⟩, ⟨13, .chain⟩], none⟩ : Go.Oper) := rfl
theorem ops_128_1_16 : ops_128_1[16]? = some (⟨some 5, .assign (.tmp 21), 3, "best.go:139", #[⟨15, .data⟩, ⟨15, .chain⟩, ⟨0, .phase⟩, ⟨1, .phase⟩, ⟨2, .phase⟩, ⟨3, .phase⟩, ⟨4, .phase⟩, ⟨5, .phase⟩, ⟨6, .phase⟩, ⟨7, .phase⟩, ⟨8, .phase⟩, ⟨9, .phase⟩, ⟨10, .phase⟩, ⟨11, .phase⟩, ⟨12, .phase⟩, ⟨13, .phase⟩, ⟨14, .phase⟩, ⟨15, .phase⟩], none⟩ : Go.Oper) := rfl
set_option maxRecDepth 100000 in
set_option maxHeartbeats 8000000 in
theorem wcmp_calls (lo : Nat) (v : Value) (cs : List ScD) (Xl a b : Nat) (w : World) (hC : Scs w lo v cs) (hX : w.cell? ⟨Xl, 0, none⟩ = some v) (ha : a < cs.length) (hb : b < cs.length) (hn : cs.length ≤ 1000) (hF : ∀ c ∈ cs, FitW c) :
  Calls Tryz.prog 128 #[.int .i64 (a : Int), .int .i64 (b : Int), .pointer (some ⟨Xl, 0, none⟩)] w (IntBelow (wcmp cs a b) w) := by
 obtain ⟨c, hc⟩ : ∃ c, cs[a]? = some c := ⟨_, List.getElem?_eq_getElem ha⟩
 obtain ⟨d, hd⟩ : ∃ c, cs[b]? = some c := ⟨_, List.getElem?_eq_getElem hb⟩
 have Hw := Lib.hid (show wcmp cs a b = firstE [Lib.compareInt (wthC d) (wthC c), Lib.compareInt (a : Int) (b : Int)] by unfold wcmp; rw [scAt_some hc, scAt_some hd])
 have hfc := Lib.hid (hF c (List.mem_of_getElem? hc))
 have hfd := Lib.hid (hF d (List.mem_of_getElem? hd))
 rcases scs_at hC with ⟨_, h⟩ | ⟨g, off, cap, rfl, _, hg, _, hcell⟩
 ·rw [h] at ha; simp at ha
 obtain ⟨x, r0, r1, r2, r3, r4, hx⟩ := hcell a c hc
 obtain ⟨y, s0, s1, s2, s3, s4, hy⟩ := hcell b d hd
 obtain ⟨xa, xc, rfl⟩ := strs_shape hx
 obtain ⟨ya, yc, rfl⟩ := strs_shape hy
 have ha' : (a : Int) < (cs.length : Int) := by omega
 have hb' : (b : Int) < (cs.length : Int) := by omega
 clear hC hF hcell hc hd hx hy
 unfold IntBelow
 obtain ⟨r, hr⟩ : ∃ r, wcmp cs a b = r := ⟨_, rfl⟩
 rw [hr]
 have Hr := Lib.hid (hr.symm.trans Hw.out)
 clear hr Hw
 generalize cs.length = n at hX ha hb hn ha' hb'
 have HS := Lib.hid (show ∀ w', Below w.heap.size w w' → w'.cell? ⟨Xl, 0, none⟩ = some (.slice (some ⟨g, off, none⟩) n cap) ∧ w'.cell? ⟨g, off + a * 5, none⟩ = some (.string c.who) ∧ w'.cell? ⟨g, off + a * 5 + 1, none⟩ = some (.slice xa c.pos.length xc) ∧ w'.cell? ⟨g, off + a * 5 + 2, none⟩ = some (.int .i64 c.num) ∧ w'.cell? ⟨g, off + a * 5 + 3, none⟩ = some (.int .i64 c.den) ∧ w'.cell? ⟨g, off + a * 5 + 4, none⟩ = some (.bool c.played) ∧ w'.cell? ⟨g, off + b * 5, none⟩ = some (.string d.who) ∧ w'.cell? ⟨g, off + b * 5 + 1, none⟩ = some (.slice ya d.pos.length yc) ∧ w'.cell? ⟨g, off + b * 5 + 2, none⟩ = some (.int .i64 d.num) ∧ w'.cell? ⟨g, off + b * 5 + 3, none⟩ = some (.int .i64 d.den) ∧ w'.cell? ⟨g, off + b * 5 + 4, none⟩ = some (.bool d.played) from fun w' h => ⟨below_cell h hX, below_cell h r0, below_cell h r1, below_cell h r2, below_cell h r3, below_cell h r4, below_cell h s0, below_cell h s1, below_cell h s2, below_cell h s3, below_cell h s4⟩)
 have hbc := (Below.refl w.heap.size w).drew
 have hS0 := HS.out _ hbc
 clear hX r0 r1 r2 r3 r4 s0 s1 s2 s3 s4
 go_enter Tryz.func128, Tryz.ntmps128
 go_upto_region 1 with fail
 show Code.wp _ (Code.region 1 ops_128_1 true) _ _ _
 refine regionC_start 17 (fun w' => w'.cell? ⟨Xl, 0, none⟩ = some (.slice (some ⟨g, off, none⟩) n cap) ∧ w'.cell? ⟨g, off + a * 5, none⟩ = some (.string c.who) ∧ w'.cell? ⟨g, off + a * 5 + 1, none⟩ = some (.slice xa c.pos.length xc) ∧ w'.cell? ⟨g, off + a * 5 + 2, none⟩ = some (.int .i64 c.num) ∧ w'.cell? ⟨g, off + a * 5 + 3, none⟩ = some (.int .i64 c.den) ∧ w'.cell? ⟨g, off + a * 5 + 4, none⟩ = some (.bool c.played) ∧ w'.cell? ⟨g, off + b * 5, none⟩ = some (.string d.who) ∧ w'.cell? ⟨g, off + b * 5 + 1, none⟩ = some (.slice ya d.pos.length yc) ∧ w'.cell? ⟨g, off + b * 5 + 2, none⟩ = some (.int .i64 d.num) ∧ w'.cell? ⟨g, off + b * 5 + 3, none⟩ = some (.int .i64 d.den) ∧ w'.cell? ⟨g, off + b * 5 + 4, none⟩ = some (.bool d.played)) (fun j => [0, 2, 3, 4, 5, 7, 8].contains j) (by kernel_rfl) rfl ?_
 generalize w.drew = W0 at hbc hS0 ⊢
 ·skip
  refine takeC 1 7 (v := ?_) ops_128_1_1 rfl (by kernel_rfl) (by kernel_rfl) (by kernel_rfl) (by rfl) (fun _ _ _ h => h) (by rfl) ?y1_1 ?_
  case y1_1 => intro w; go_simp; try with_reducible rfl
  simp only [sE0, sE1]
  refine takeC 6 12 (v := ?_) ops_128_1_6 rfl (by kernel_rfl) (by kernel_rfl) (by kernel_rfl) (by rfl) (fun _ _ _ h => h) (by rfl) ?y6_2 ?_
  case y6_2 => intro w; go_simp; try with_reducible rfl
  simp only [sE0, sE1]
  refine takeC 11 17 (v := ?_) ops_128_1_11 rfl (by kernel_rfl) (by kernel_rfl) (by kernel_rfl) (by rfl) (fun _ _ _ h => h) (by rfl) ?y11_3 ?_
  case y11_3 => intro w; go_simp; try with_reducible rfl
  simp only [sE0, sE1]
  refine takeC 12 18 (v := ?_) ops_128_1_12 rfl (by kernel_rfl) (by kernel_rfl) (by kernel_rfl) (by rfl) (fun _ _ _ h => h) (by rfl) ?y12_4 ?_
  case y12_4 => intro w; go_simp; try with_reducible rfl
  simp only [sE0, sE1]
  refine loadC 0 6 (v := ?_) ops_128_1_0 rfl (by kernel_rfl) (by kernel_rfl) (by kernel_rfl) (by kernel_rfl) (fun _ _ _ h => h) (by rfl) ?y0_5 (by exact hS0) ?_
  case y0_5 => intro w hSw; (try dsimp only at hSw); go_simp; try with_reducible rfl
  simp only [sE0, sE1]
  refine loadC 2 8 (v := ?_) ops_128_1_2 rfl (by kernel_rfl) (by kernel_rfl) (by kernel_rfl) (by kernel_rfl) (fun _ _ _ h => h) (by rfl) ?y2_6 (by exact hS0) ?_
  case y2_6 => intro w hSw; (try dsimp only at hSw); go_simp; try with_reducible rfl
  simp only [sE0, sE1]
  refine loadC 3 9 (v := ?_) ops_128_1_3 rfl (by kernel_rfl) (by kernel_rfl) (by kernel_rfl) (by kernel_rfl) (fun _ _ _ h => h) (by rfl) ?y3_7 (by exact hS0) ?_
  case y3_7 => intro w hSw; (try dsimp only at hSw); go_simp; try with_reducible rfl
  simp only [sE0, sE1]
  refine loadC 5 11 (v := ?_) ops_128_1_5 rfl (by kernel_rfl) (by kernel_rfl) (by kernel_rfl) (by kernel_rfl) (fun _ _ _ h => h) (by rfl) ?y5_8 (by exact hS0) ?_
  case y5_8 => intro w hSw; (try dsimp only at hSw); go_simp; try with_reducible rfl
  simp only [sE0, sE1]
  refine loadC 7 13 (v := ?_) ops_128_1_7 rfl (by kernel_rfl) (by kernel_rfl) (by kernel_rfl) (by kernel_rfl) (fun _ _ _ h => h) (by rfl) ?y7_9 (by exact hS0) ?_
  case y7_9 => intro w hSw; (try dsimp only at hSw); go_simp; try with_reducible rfl
  simp only [sE0, sE1]
  refine loadC 8 14 (v := ?_) ops_128_1_8 rfl (by kernel_rfl) (by kernel_rfl) (by kernel_rfl) (by kernel_rfl) (fun _ _ _ h => h) (by rfl) ?y8_10 (by exact hS0) ?_
  case y8_10 => intro w hSw; (try dsimp only at hSw); go_simp; try with_reducible rfl
  simp only [sE0, sE1]
  refine readyC (rs := [4]) (by kernel_rfl) (by simp) (each_cons (runC ops_128_1_4 (by rfl) (fun K hK => ?_)) each_nil)
  go_simp
  refine (wrth_calls d ya _ yc _ hfd.out).mono ?_
  rintro e w' ⟨rfl, hb1⟩
  replace hbc := below_step hbc hb1
  have hS0 := HS.out _ hbc
  clear hb1
  go_wp2_with fail
  refine hK.out _ _ (fun _ => ?_) ?_
  ·(exact hS0)
  clear hK K
  try simp only [Act.put, sEt, sE0, sE1]
  refine readyC (rs := [9]) (by kernel_rfl) (by simp) (each_cons (runC ops_128_1_9 (by rfl) (fun K hK => ?_)) each_nil)
  go_simp
  refine (wrth_calls c xa _ xc _ hfc.out).mono ?_
  rintro e w' ⟨rfl, hb1⟩
  replace hbc := below_step hbc hb1
  have hS0 := HS.out _ hbc
  clear hb1
  go_wp2_with fail
  refine hK.out _ _ (fun h => absurd h (by decide)) ?_
  clear hK K
  try simp only [Act.put, sEt, sE0, sE1]
  refine readyC (rs := [10]) (by kernel_rfl) (by simp) (each_cons (runC ops_128_1_10 (by rfl) (fun K hK => ?_)) each_nil)
  go_simp
  refine (Tryz.cmp_Compare_int _ _ _).mono ?_
  rintro e w' ⟨rfl, rfl⟩
  go_wp2_with fail
  refine hK.out _ _ (fun h => absurd h (by decide)) ?_
  clear hK K
  try simp only [Act.put, sEt, sE0, sE1]
  refine readyC (rs := [13]) (by kernel_rfl) (by simp) (each_cons (runC ops_128_1_13 (by rfl) (fun K hK => ?_)) each_nil)
  go_simp
  refine (Tryz.cmp_Compare_int _ _ _).mono ?_
  rintro e w' ⟨rfl, rfl⟩
  go_wp2_with fail
  refine hK.out _ _ (fun h => absurd h (by decide)) ?_
  clear hK K
  try simp only [Act.put, sEt, sE0, sE1]
  refine readyC (rs := [14]) (by kernel_rfl) (by simp) (each_cons (runC ops_128_1_14 (by rfl) (fun K hK => ?_)) each_nil)
  go_simp
  replace hbc := below_step hbc (below_alloc _ (.cells #[.int .i64 (Lib.compareInt (wthC d) (wthC c)), .int .i64 (Lib.compareInt (a : Int) (b : Int))] 3))
  go_wp2_with fail
  refine hK.out _ _ (fun h => absurd h (by decide)) ?_
  clear hK K
  try simp only [Act.put, sEt, sE0, sE1]
  refine readyC (rs := [15]) (by kernel_rfl) (by simp) (each_cons (runC ops_128_1_15 (by rfl) (fun K hK => ?_)) each_nil)
  go_simp
  refine (orI_calls _ 0 2 [Lib.compareInt (wthC d) (wthC c), Lib.compareInt (a : Int) (b : Int)] _ (by simp) (by exact nums2 _ _ _ _)).mono ?_
  rintro e w' ⟨rfl, rfl⟩
  go_wp2_with fail
  refine hK.out _ _ (fun h => absurd h (by decide)) ?_
  clear hK K
  try simp only [Act.put, sEt, sE0, sE1]
  refine takeC 16 5 (v := ?_) ops_128_1_16 rfl (by kernel_rfl) (by kernel_rfl) (by kernel_rfl) (by rfl) (fun _ _ _ h => h) (by rfl) ?y16_11 ?_
  case y16_11 => intro w; go_simp; try with_reducible rfl
  simp only [sE0, sE1]
  refine doneC (by kernel_rfl) ?_ _
  go_wp2_with fail
  go_ret
  exact ⟨ret_int Hr.out.symm, hbc⟩
end Go.Proofs.YtfcaokpadodijaaGreat
/- Points and Total. -/
namespace Go.Proofs.YtfcaokpadodijaaGreat
open Go.RowKit

/-- What Points answers: the points in hundredths, and what is wrong. -/
def ptsE (rs : List RD) (ks : List ByteArray) (l : LD) : Int := firstE [wrE rs ks, lnE l]
def ptsF (rs : List RD) (ks : List ByteArray) (l : LD) : Int × Int := if ptsE rs ks l = 0 then lowF (ptsI rs ks l.stats) 100 else (0, 0)
def TwoIs (f : Int × Int) (x : Int) (w : World) (e : Ending) (w' : World) : Prop := e = .returned (.tuple #[frV f, .int .i64 x]) ∧ Below w.heap.size w w'
def ops_78_1 : Array Go.Oper := #[
 ⟨some 9, .move (.tmp 0), 115, "score.go:45", #[], none⟩,
 ⟨some 10, .move (.tmp 1), 39, "score.go:45", #[], none⟩,
 ⟨some 11, .call { callee := .value (.func 118), args := #[.tmp 9, .tmp 10], argTypes := #[115, 39] }, 35, "score.go:45", #[⟨0, .data⟩, ⟨1, .data⟩], none⟩,
 ⟨some 12, .load 120 (.tmp 5), 120, "score.go:45", #[], none⟩,
 ⟨some 13, .call { callee := .value (.func 119), args := #[.tmp 12], argTypes := #[120] }, 35, "score.go:45", #[⟨3, .data⟩, ⟨2, .chain⟩], none⟩,
 ⟨some 14, .buildSlice 90 2 #[(0, .tmp 11), (1, .tmp 13)], 90, "score.go:45", #[⟨2, .data⟩, ⟨4, .data⟩], none⟩,
 ⟨some 15, .call { callee := .value (.func 46), args := #[.tmp 14], argTypes := #[90] }, 35, "score.go:45", #[⟨5, .data⟩, ⟨4, .chain⟩], none⟩,
 ⟨some 8, .assign (.tmp 15), 35, "score.go:45", #[⟨6, .data⟩, ⟨6, .chain⟩, ⟨0, .phase⟩, ⟨1, .phase⟩, ⟨2, .phase⟩, ⟨3, .phase⟩, ⟨4, .phase⟩, ⟨5, .phase⟩, ⟨6, .phase⟩], none⟩]
theorem ops_78_1_0 : ops_78_1[0]? = some (⟨some 9, .move (.tmp 0), 115, "score.go:45", #[], none⟩ : Go.Oper) := rfl
theorem ops_78_1_1 : ops_78_1[1]? = some (⟨some 10, .move (.tmp 1), 39, "score.go:45", #[], none⟩ : Go.Oper) := rfl
theorem ops_78_1_2 : ops_78_1[2]? = some (⟨some 11, .call { callee := .value (.func 118), args := #[.tmp 9, .tmp 10], argTypes := #[115, 39] }, 35, "score.go:45", #[⟨0, .data⟩, ⟨1, .data⟩], none⟩ : Go.Oper) := rfl
theorem ops_78_1_3 : ops_78_1[3]? = some (⟨some 12, .load 120 (.tmp 5), 120, "score.go:45", #[], none⟩ : Go.Oper) := rfl
theorem ops_78_1_4 : ops_78_1[4]? = some (⟨some 13, .call { callee := .value (.func 119), args := #[.tmp 12], argTypes := #[120] }, 35, "score.go:45", #[⟨3, .data⟩, ⟨2, .chain⟩], none⟩ : Go.Oper) := rfl
theorem ops_78_1_5 : ops_78_1[5]? = some (⟨some 14, .buildSlice 90 2 #[(0, .tmp 11), (1, .tmp 13)], 90, "score.go:45", #[⟨2, .data⟩, ⟨4, .data⟩], none⟩ : Go.Oper) := rfl
theorem ops_78_1_6 : ops_78_1[6]? = some (⟨some 15, .call { callee := .value (.func 46), args := #[.tmp 14], argTypes := #[90] }, 35, "score.go:45", #[⟨5, .data⟩, ⟨4, .chain⟩], none⟩ : Go.Oper) := rfl
theorem ops_78_1_7 : ops_78_1[7]? = some (⟨some 8, .assign (.tmp 15), 35, "score.go:45", #[⟨6, .data⟩, ⟨6, .chain⟩, ⟨0, .phase⟩, ⟨1, .phase⟩, ⟨2, .phase⟩, ⟨3, .phase⟩, ⟨4, .phase⟩, ⟨5, .phase⟩, ⟨6, .phase⟩], none⟩ : Go.Oper) := rfl
theorem ops_78_1_ns : Go.Region.noSelect ops_78_1 = true := by kernel_rfl
set_option maxRecDepth 100000 in
set_option maxHeartbeats 4000000 in
theorem points2_calls (lo lo' lo3 : Nat) (v kv x : Value) (rs : List RD) (ks : List ByteArray) (l : LD) (w : World) (hR : Rls w lo v rs) (hs : ∀ r ∈ rs, SmallR r) (hn : rs.length ≤ 1000) (hK : Strs w lo' kv ks) (hk : ∀ k ∈ ks, k.size ≤ 1000) (hkn : ks.length ≤ 1000000) (hT : Tds w lo3 x l.stats) (hl : SmallL l) :
  Calls Tryz.prog 78 #[v, kv, lnV l x] w (TwoIs (ptsF rs ks l) (ptsE rs ks l) w) := by
 obtain ⟨ra, rc, rfl⟩ := rls_shape hR
 obtain ⟨ka, kc, rfl⟩ := strs_shape hK
 obtain ⟨xa, xc, rfl⟩ := tds_shape hT
 obtain ⟨W, hW⟩ : ∃ W, W = (w.alloc (.cells #[.string l.player, .int .i64 l.week, .slice xa l.stats.length xc] 120)).alloc (.cells #[.int .i64 0, .int .i64 0] 34) := ⟨_, rfl⟩
 have hwW : Below w.heap.size w W := by rw [hW]; exact (below_alloc w _).trans ((below_alloc _ _).mono (by simp))
 have hx : W.heap[w.heap.size]? = some (.cells #[.string l.player, .int .i64 l.week, .slice xa l.stats.length xc] 120 (0, 0)) := by rw [hW]; exact heap_al (heap_alloc_new w _) _
 have hf : W.heap[w.heap.size + 1]? = some (.cells #[.int .i64 0, .int .i64 0] 34 (0, 0)) := by
  rw [hW]; have := heap_alloc_new (w.alloc (.cells #[.string l.player, .int .i64 l.week, .slice xa l.stats.length xc] 120)) (.cells #[.int .i64 0, .int .i64 0] 34); rwa [World.size_alloc] at this
 have x0 := cell_at hx 0 rfl
 have x1 := cell_at hx 1 rfl
 have x2 := cell_at hx 2 rfl
 have hb0 := (Below.refl W.heap.size W).drew
 have HS := Lib.hid (show ∀ w', Below W.heap.size W w' → (Below W.heap.size W w' ∧ w'.cell? ⟨w.heap.size, 0, none⟩ = some (.string l.player) ∧ w'.cell? ⟨w.heap.size, 1, none⟩ = some (.int .i64 l.week) ∧ w'.cell? ⟨w.heap.size, 2, none⟩ = some (.slice xa l.stats.length xc)) from fun w' hb => ⟨hb, below_cell hb x0, below_cell hb x1, below_cell hb x2⟩)
 have C1 := Lib.hid (fun w' (hb : Below W.heap.size W w') => wrongRules_calls lo lo' _ _ rs ks w' (hR.below (below_step hwW hb)) hs (by omega) (hK.below (below_step hwW hb)) hk hkn)
 have C2 := Lib.hid (fun w' (hb : Below W.heap.size W w') => checkLine_calls lo3 l _ w' (hT.below (below_step hwW hb)) hl)
 have C3 := Lib.hid (fun (h : ptsE rs ks l = 0) w' (hb : Below W.heap.size W w') => points_calls lo lo' lo3 _ _ _ rs ks l w' (hR.below (below_step hwW hb)) hs hn (fit_of (firstE_all0 (firstE_all0 h (wrE rs ks) (by simp)) (chkRl rs) (by simp)) (firstE_all0 h (lnE l) (by simp))) (hK.below (below_step hwW hb)) (hT.below (below_step hwW hb)))
 have HP := Lib.hid (fun (h : ptsE rs ks l = 0) => pts_bound (ks := ks) (fit_of (firstE_all0 (firstE_all0 h (wrE rs ks) (by simp)) (chkRl rs) (by simp)) (firstE_all0 h (lnE l) (by simp))) (rules_ok (firstE_all0 (firstE_all0 h (wrE rs ks) (by simp)) (chkRl rs) (by simp))).1)
 have HF0 := Lib.hid (fun (h : ptsE rs ks l ≠ 0) => (show ptsF rs ks l = (0, 0) by unfold ptsF; rw [if_neg h]))
 have HF1 := Lib.hid (fun (h : ptsE rs ks l = 0) => (show ptsF rs ks l = lowF (ptsI rs ks l.stats) 100 by unfold ptsF; rw [if_pos h]))
 have HE := Lib.hid (show firstE [wrE rs ks, lnE l] = ptsE rs ks l from rfl)
 have Hf := Lib.hid hf
 have HwW := Lib.hid hwW
 clear hR hs hn hK hk hkn hT hl hx x0 x1 x2 hf
 generalize wrE rs ks = E1 at C1 HE
 unfold lnV at C2 C3 ⊢
 generalize lnE l = E2 at C2 HE
 generalize ptsE rs ks l = E at C3 HP HF0 HF1 HE ⊢
 generalize ptsF rs ks l = R at HF0 HF1 ⊢
 go_enter Tryz.func78, Tryz.ntmps78
 go_upto_region 1 with fail
 rw [← hW]
 clear hW
 show Code.wp _ (Code.region 1 ops_78_1 true) _ _ _
 refine region_start 8 (fun w' => Below W.heap.size W w' ∧ w'.cell? ⟨w.heap.size, 0, none⟩ = some (.string l.player) ∧ w'.cell? ⟨w.heap.size, 1, none⟩ = some (.int .i64 l.week) ∧ w'.cell? ⟨w.heap.size, 2, none⟩ = some (.slice xa l.stats.length xc)) (by kernel_rfl) rfl ?_ (fun hHeld => ?_)
 ·(exact HS.out _ (by first | assumption | exact hHeld.1 | exact below_step hHeld.1 (by assumption) | exact below_step hHeld.1 (below_alloc _ _)))
 refine take_to 0 9 (bQ 8 1) (v := ?_) ops_78_1_0 rfl ops_78_1_ns (by kernel_rfl) (by kernel_rfl) (fun _ _ _ h => h) (by rfl) ?y0 (by assumption) ?_
 case y0 => intro w hSw; (try dsimp only at hSw); go_simp; try with_reducible rfl
 simp only [sE0, sE1]
 refine take_to 1 10 (bQ 8 3) (v := ?_) ops_78_1_1 rfl ops_78_1_ns (by kernel_rfl) (by kernel_rfl) (fun _ _ _ h => h) (by rfl) ?y1 (by assumption) ?_
 case y1 => intro w hSw; (try dsimp only at hSw); go_simp; try with_reducible rfl
 simp only [sE0, sE1]
 refine take_to 3 12 (bQ 8 11) (v := ?_) ops_78_1_3 rfl ops_78_1_ns (by kernel_rfl) (by kernel_rfl) (fun _ _ _ h => h) (by rfl) ?y3 (by assumption) ?_
 case y3 => intro w hSw; (try dsimp only at hSw); go_simp; try with_reducible rfl
 simp only [sE0, sE1]
 refine run_to 2 (bQ 8 15) ops_78_1_2 (by kernel_rfl) (by kernel_rfl) (by rfl) (fun K hK => ?_)
 go_simp
 refine (C1.out _ (by exact hHeld.1)).mono ?_
 rintro e w' ⟨rfl, hb⟩
 go_wp2_with fail
 refine hK.out _ _ ?_ (fun hHeld => ?_)
 ·(exact HS.out _ (by first | assumption | exact hHeld.1 | exact below_step hHeld.1 (by assumption) | exact below_step hHeld.1 (below_alloc _ _)))
 clear hK K
 try simp only [Act.put, sEt, sE0, sE1]
 refine run_to 4 (bQ 8 31) ops_78_1_4 (by kernel_rfl) (by kernel_rfl) (by rfl) (fun K hK => ?_)
 go_simp
 refine (C2.out _ (by exact hHeld.1)).mono ?_
 rintro e w' ⟨rfl, hb⟩
 go_wp2_with fail
 refine hK.out _ _ ?_ (fun hHeld => ?_)
 ·(exact HS.out _ (by first | assumption | exact hHeld.1 | exact below_step hHeld.1 (by assumption) | exact below_step hHeld.1 (below_alloc _ _)))
 clear hK K
 try simp only [Act.put, sEt, sE0, sE1]
 refine run_to 5 (bQ 8 63) ops_78_1_5 (by kernel_rfl) (by kernel_rfl) (by rfl) (fun K hK => ?_)
 go_simp
 refine hK.out _ _ ?_ (fun hHeld => ?_)
 ·(exact HS.out _ (by first | assumption | exact hHeld.1 | exact below_step hHeld.1 (by assumption) | exact below_step hHeld.1 (below_alloc _ _)))
 clear hK K
 try simp only [Act.put, sEt, sE0, sE1]
 refine run_to 6 (bQ 8 127) ops_78_1_6 (by kernel_rfl) (by kernel_rfl) (by rfl) (fun K hK => ?_)
 go_simp
 refine (orE_calls _ 0 2 [E1, E2] _ (by simp) (by exact nums2 _ _ _ _)).mono ?_
 rintro e w' ⟨rfl, rfl⟩
 rw [HE.out]
 go_wp2_with fail
 refine hK.out _ _ ?_ (fun hHeld => ?_)
 ·(exact HS.out _ (by first | assumption | exact hHeld.1 | exact below_step hHeld.1 (by assumption) | exact below_step hHeld.1 (below_alloc _ _)))
 clear hK K
 try simp only [Act.put, sEt, sE0, sE1]
 refine take_to 7 8 (bQ 8 255) (v := ?_) ops_78_1_7 rfl ops_78_1_ns (by kernel_rfl) (by kernel_rfl) (fun _ _ _ h => h) (by rfl) ?y7 (by assumption) ?_
 case y7 => intro w hSw; (try dsimp only at hSw); go_simp; try with_reducible rfl
 simp only [sE0, sE1]
 refine wpAnyH_done (by kernel_rfl) ?_ _
 have hb1 := hHeld.1
 have hf1 := cells_later Hf.out hb1
 obtain ⟨-, x0, x1, x2⟩ := hHeld
 have f0 := free_of hf1 0
 have f1 := free_of hf1 1
 have g0 := cell_at hf1 0 rfl
 have g1 := cell_at hf1 1 rfl
 by_cases hz : E = 0
 ·have e1 : (E != 0) = false := by simp [hz]
  have HC := Lib.hid (C3.out hz)
  have HB := HP.out hz
  have HR := Lib.hid (HF1.out hz)
  have Hz := Lib.hid hz
  have Hb1 := Lib.hid hb1
  clear hz C1 C2 hb0 hb hf1 f0 f1 g0 g1
  go_wp2_with fail
  refine (HC.out _ Hb1.out).mono ?_
  rintro e w2 ⟨rfl, hb2⟩
  go_wp2_with fail
  refine (ofHundredths_calls _ _ (by unfold Int64; omega)).mono ?_
  rintro e w3 ⟨rfl, hb3⟩
  have hb03 := below_step (below_step Hb1.out hb2) hb3
  have hf3 := cells_later Hf.out hb03
  have f0 := free_of hf3 0
  have f1 := free_of hf3 1
  have g0 := cell_at hf3 0 rfl
  have g1 := cell_at hf3 1 rfl
  rw [← HR.out, Hz.out]
  have Hb3 := Lib.hid (below_step HwW.out hb03)
  clear hb2 hb3 hb03 hf3 HB
  rw [show frV R = .agg #[.int .i64 R.1, .int .i64 R.2] from rfl]
  obtain ⟨r1, r2⟩ := R
  dsimp only
  go_wp2_with fail
  try simp only [Exit.inBlock, Exit.then]
  refine bodyPost_ret (v := .tuple #[.agg #[.int .i64 r1, .int .i64 r2], .int .i64 0]) ?_ rfl ⟨by rw [Hz.out]; rfl, (Hb3.out.setCell (p := ⟨w.heap.size + 1, 0, none⟩) (by simp) _).setCell (p := ⟨w.heap.size + 1, 1, none⟩) (by simp) _⟩
  rw [results_cell_tmp rfl]
  go_simp
 ·have e1 : (E != 0) = true := by simp [hz]
  have HR := HF0.out hz
  subst HR
  have Hb1 := Lib.hid (below_step hwW hb1)
  clear hz C1 C2 C3 hb0 hb hf1 hb1
  go_wp2_with fail
  try simp only [Exit.inBlock, Exit.then]
  refine bodyPost_ret (v := .tuple #[.agg #[.int .i64 0, .int .i64 0], .int .i64 E]) ?_ rfl ⟨rfl, (Hb1.out.setCell (p := ⟨w.heap.size + 1, 0, none⟩) (by simp) _).setCell (p := ⟨w.heap.size + 1, 1, none⟩) (by simp) _⟩
  rw [results_cell_tmp rfl]
  go_simp
end Go.Proofs.YtfcaokpadodijaaGreat
/- SubbedOf: the same. -/
namespace Go.Proofs.YtfcaokpadodijaaGreat
open Go.RowKit

theorem fnd_unknown {cs : List ScD} {k : ByteArray} (h : knownB (cs.map ScD.who) k = false) : fndC cs k = zeroC := by unfold fndC; rw [h]; rfl
theorem known_mem {cs : List ScD} {k : ByteArray} (h : knownB (cs.map ScD.who) k = true) : ∃ c ∈ cs, c.who = k := by
 unfold knownB at h
 rw [Bool.and_eq_true] at h
 obtain ⟨h1, h2⟩ := h
 have hl := of_decide_eq_true h1
 rw [List.length_map] at hl
 have hk := beqS_iff.1 h2
 have : keyAt (cs.map ScD.who) (bsI (cs.map ScD.who) k) = (cs[bsI (cs.map ScD.who) k]).who := keyAt_who (List.getElem?_eq_getElem hl)
 exact ⟨_, List.getElem_mem hl, by rw [← this, hk]⟩
theorem each_zero {n : Nat} {most : Int} {f : Nat → Int} (h : eachE n most f = 0) : ∀ i, i < n → f i = 0 := by
 unfold eachE at h
 split at h
 ·simp at h
 ·intro i
  induction i using Nat.strongRecOn with
  | ind i ih =>
   intro hi
   by_cases hz : f i = 0
   ·exact hz
   ·have := errsTo_hit (n := n) hi (fun j hj => ih j hj (by omega)) hz
    rw [Int.toNat_natCast] at h
    rw [this] at h
    exact absurd h hz
end Go.Proofs.YtfcaokpadodijaaGreat
/- The reference's sum of all who are in slots. -/
namespace Go.Proofs.YtfcaokpadodijaaGreat
open Go.RowKit

def cpI (who captain : ByteArray) : Int := if beqS who captain then 2 else 1
def smAt (cs : List ScD) (fs : List FiD) (captain : ByteArray) (i : Nat) : Int := if (fiAt fs i).who.size = 0 then 0 else ptH (fndC cs (fiAt fs i).who) * cpI (fiAt fs i).who captain
def smF (cs : List ScD) (fs : List FiD) (captain : ByteArray) : Int := sumTo (smAt cs fs captain) fs.length
theorem sumTo_le {f : Nat → Int} {M : Int} (h : ∀ i, -M ≤ f i ∧ f i ≤ M) : ∀ k : Nat, -(M * (k : Int)) ≤ sumTo f k ∧ sumTo f k ≤ M * (k : Int)
 | 0 => by simp [sumTo]
 | k + 1 => by
  have h1 := sumTo_le h k
  have h2 := h k
  unfold sumTo
  rw [Int.natCast_add, Int.mul_add]
  omega
set_option maxRecDepth 100000 in
set_option maxHeartbeats 4000000 in
theorem sumOf_calls (lo lo' : Nat) (v u : Value) (cs : List ScD) (fs : List FiD) (captain : ByteArray) (w : World) (hC : Scs w lo v cs) (hsort : SortedK (cs.map ScD.who)) (hF : Fis w lo' u fs) (hn : fs.length ≤ 1000000) (hfit : ∀ c ∈ cs, FitW c) (hne : ∀ c ∈ cs, c.who.size ≠ 0) (hkn : ∀ f ∈ fs, f.who.size ≠ 0 → knownB (cs.map ScD.who) f.who = true) :
  Calls Tryz.prog 20 #[v, u, .string captain] w (IntBelow (smF cs fs captain) w) := by
 have HC := Lib.hid hC
 have HF := Lib.hid hF
 have Hsort := Lib.hid hsort
 have Hfit := Lib.hid hfit
 have Hne := Lib.hid hne
 have Hkn := Lib.hid hkn
 have Hsm := Lib.hid (show ∀ i, -2000000 ≤ smAt cs fs captain i ∧ smAt cs fs captain i ≤ 2000000 from by
  intro i
  unfold smAt
  split
  ·omega
  ·rename_i hz
   have h1 := fit_fnd hfit (fiAt fs i).who
   have h2 := wth_small h1
   have h3 : wthC (fndC cs (fiAt fs i).who) = ptH (fndC cs (fiAt fs i).who) ∨ wthC (fndC cs (fiAt fs i).who) = 0 ∧ ptH (fndC cs (fiAt fs i).who) = 0 := by
    unfold wthC
    split
    ·rename_i hw
     right
     refine ⟨rfl, ?_⟩
     cases hk : knownB (cs.map ScD.who) (fiAt fs i).who
     ·rw [fnd_unknown hk]; rfl
     ·exfalso
      obtain ⟨c, hc, _⟩ := known_mem hk
      have : fndC cs (fiAt fs i).who ∈ cs := by
       unfold fndC
       rw [hk, if_pos rfl]
       have hl := known_lt hk
       rw [List.length_map] at hl
       rw [List.getElem?_eq_getElem hl]
       exact List.getElem_mem hl
      exact hne _ this hw
    ·exact Or.inl rfl
   unfold cpI
   split <;> rcases h3 with h3 | ⟨h3, h4⟩ <;> omega)
 have Hb := Lib.hid (sumTo_le Hsm.out)
 obtain ⟨ca, cc, rfl⟩ := NRows.shape hC
 obtain ⟨fa, fc, rfl⟩ := fis_shape hF
 clear hC hF hfit hsort hne hkn
 go_enter Tryz.func20, Tryz.ntmps20
 go_wp2_with fail
 go_loopw [7, 13] (fun s i wr => ∃ k : Nat, k ≤ fs.length ∧ i = .int .i64 k ∧ s = .int .i64 (sumTo (smAt cs fs captain) k) ∧ Below w.heap.size w wr) (fun _ i _ => fs.length - (intOf i).toNat)
 case atStart => exact ⟨0, Nat.zero_le _, rfl, rfl, Below.refl _ _⟩
 case round =>
  obtain ⟨k, hk, rfl, rfl, hb⟩ := hrel
  by_cases hlt : k < fs.length
  ·obtain ⟨f, hf⟩ : ∃ f, fs[k]? = some f := ⟨_, List.getElem?_eq_getElem hlt⟩
   rcases fis_at HF.out with ⟨_, h⟩ | ⟨g, off, cap, e, _, hg, _, hcell⟩
   ·rw [h] at hlt; simp at hlt
   simp only [Value.slice.injEq] at e
   obtain ⟨rfl, -, rfl⟩ := e
   obtain ⟨q0, q1⟩ := hcell k f hf
   have q0 := below_cell hb q0
   have q1 := below_cell hb q1
   have hlt' : (k : Int) < (fs.length : Int) := by omega
   have HW := Lib.hid (show smAt cs fs captain k = if f.who.size = 0 then 0 else ptH (fndC cs f.who) * cpI f.who captain by unfold smAt; rw [fiAt_some hf])
   have HN := Lib.hid (show sumTo (smAt cs fs captain) (k + 1) = sumTo (smAt cs fs captain) k + smAt cs fs captain k from rfl)
   have hs1 := Hb.out k
   have hs2 := Hsm.out k
   have Hk1 := Lib.hid (Hkn.out f (List.mem_of_getElem? hf))
   generalize sumTo (smAt cs fs captain) k = S at HN hs1 ⊢
   generalize smAt cs fs captain k = A at HN HW hs2
   clear hcell hf
   by_cases hz : f.who.size = 0
   ·have HA := Lib.hid (show A = 0 by rw [HW.out, if_pos hz])
    have e2 : f.who.toList.isEmpty = true := by rw [empty_of]; exact decide_eq_true hz
    clear hz hs2
    go_wp2_with fail
    go_roundw
    case rel => exact ⟨k + 1, by omega, by go_num, by rw [HN.out, HA.out, Int.add_zero], below_step hb (below_alloc wr _)⟩
    case measure => simp [intOf]; omega
   ·have HA := Lib.hid (show A = ptH (fndC cs f.who) * cpI f.who captain by rw [HW.out, if_neg hz])
    have e2 : f.who.toList.isEmpty = false := by rw [empty_of]; exact decide_eq_false hz
    have Hknown := Lib.hid (Hk1.out hz)
    have e3 : (f.who.toList == captain.toList) = beqS f.who captain := rfl
    clear hz
    go_wp2_with fail
    refine (scorerAt_calls lo _ cs f.who _ (NRows.below HC.out (below_step hb (below_alloc wr _)))).mono ?_
    rintro e w1 hat
    have hb1 := hat.2
    obtain ⟨kv, rfl, hkv⟩ := at_of Hsort.out hat
    have hb01 := below_step (below_step hb (below_alloc wr _)) hb1
    clear hat
    rcases hkv with ⟨rfl, hkf⟩ | ⟨q, rfl, hcq, -⟩
    ·have := Hknown.out; rw [hkf] at this; cases this
    rcases scs_at HC.out with ⟨_, h⟩ | ⟨cg, coff, ccap, e, _, hcg, _, hcell⟩
    ·rw [h] at hcq; simp at hcq
    simp only [Value.slice.injEq] at e
    obtain ⟨rfl, -, rfl⟩ := e
    have hqn' : (q : Int) < (cs.length : Int) := by have := (List.getElem?_eq_some_iff.1 hcq).1; omega
    obtain ⟨_, -, -, r2, r3, -, -⟩ := hcell q _ hcq
    have r2 := below_cell hb01 r2
    have r3 := below_cell hb01 r3
    have hfw := Hfit.out _ (List.mem_of_getElem? hcq) (Hne.out _ (List.mem_of_getElem? hcq))
    have q1 := below_cell hb1 (below_cell (below_alloc wr (.cells #[.string f.slot, .string f.who] 49)) q1)
    have x1 : (wr.alloc (.cells #[.string f.slot, .string f.who] 49)).cell? ⟨wr.heap.size, 1, none⟩ = some (.string f.who) := cell_at (heap_alloc_new wr _) 1 rfl
    have x1 := below_cell hb1 x1
    generalize fndC cs f.who = Fc at HA r2 r3 hfw
    obtain ⟨f1, f2, f3, f4⟩ := hfw
    have HH := Lib.hid (fun w' => hundredthsR_calls Fc.num Fc.den w' f1 (show Int64 (ptH Fc) by unfold Int64; omega) f2)
    have HP := Lib.hid (show Fc.num * ((100 : Int).tdiv Fc.den) = ptH Fc from rfl)
    clear hcell hcq q0 q1 f1 f2 hb hb1
    go_wp2_with fail
    refine (HH.out _).mono ?_
    rintro e w2 ⟨rfl, hb2⟩
    rw [HP.out]
    have hb02 := below_step hb01 hb2
    have x1 := below_cell hb2 x1
    generalize ptH Fc = P at HA f3 f4 ⊢
    clear HH HP r2 r3 hb2 hb01
    cases hq : beqS f.who captain
    ·have HA1 := Lib.hid (show A = P by rw [HA.out]; unfold cpI; rw [hq]; simp)
     rw [hq] at e3
     clear hq
     go_wp2_with fail
     go_roundw
     case rel => exact ⟨k + 1, by omega, by go_num, by rw [HN.out, HA1.out], hb02⟩
     case measure => simp [intOf]; omega
    ·have HA1 := Lib.hid (show A = P * 2 by rw [HA.out]; unfold cpI; rw [hq]; simp)
     rw [hq] at e3
     clear hq
     go_wp2_with fail
     go_roundw
     case rel => exact ⟨k + 1, by omega, by go_num, by rw [HN.out, HA1.out], hb02⟩
     case measure => simp [intOf]; omega
  ·obtain rfl : k = fs.length := by omega
   go_wp2_with fail
   go_ret
   exact ⟨rfl, hb⟩
end Go.Proofs.YtfcaokpadodijaaGreat
/- Both ways of summing fills, the captain twice. Plain facts. -/
namespace Go.Proofs.YtfcaokpadodijaaGreat
open Go.RowKit

theorem eq_of_beqS {a b : ByteArray} (h : beqS a b = true) : a = b := beqS_iff.1 h
theorem inF_snoc {fs : List FiD} {n : Nat} {f : FiD} (h : fs[n]? = some f) (k : ByteArray) : inF (fs.take (n + 1)) k = (inF (fs.take n) k || beqS f.who k) := by
 unfold inF
 rw [List.take_add_one, h]
 simp
theorem sm_eq {cs : List ScD} {fs : List FiD} {cap : ByteArray} (hsort : SortedK (cs.map ScD.who)) (hne : ∀ c ∈ cs, c.who.size ≠ 0)
  (hkn : ∀ f ∈ fs, f.who.size ≠ 0 → ∃ c ∈ cs, c.who = f.who) (hone : ∀ (i : Nat) (f : FiD), fs[i]? = some f → f.who.size ≠ 0 → inF (fs.take i) f.who = false) :
  ∀ n, n ≤ fs.length → sumTo (smAt cs fs cap) n = sumTo (wthAt cs fs) n + (if inF (fs.take n) cap = true ∧ cap.size ≠ 0 then wthC (fndC cs cap) else 0)
 | 0, _ => by simp [sumTo, inF]
 | n + 1, hn => by
  obtain ⟨f, hf⟩ : ∃ f, fs[n]? = some f := ⟨_, List.getElem?_eq_getElem (show n < fs.length by omega)⟩
  have ih := sm_eq (cap := cap) hsort hne hkn hone n (by omega)
  unfold sumTo
  rw [ih, inF_snoc hf]
  unfold smAt wthAt
  rw [fiAt_some hf]
  have hself : ∀ k : ByteArray, beqS k k = true := fun k => by unfold beqS; simp
  by_cases hz : f.who.size = 0
  ·have hnone : fndC cs f.who = zeroC := (fnd_none hsort (fun c hc => by
    cases hb : beqS c.who f.who
    ·rfl
    ·exact absurd ((congrArg ByteArray.size (eq_of_beqS hb)).trans hz) (hne c hc))).2
   have hw0 : wthC (fndC cs f.who) = 0 := by rw [hnone]; rfl
   rw [if_pos hz, hw0]
   by_cases hc : cap.size = 0
   ·simp [hc]
   ·have : beqS f.who cap = false := by
     cases hb : beqS f.who cap
     ·rfl
     ·exact absurd ((congrArg ByteArray.size (eq_of_beqS hb)).symm.trans hz) hc
    rw [this, Bool.or_false]
    omega
  ·obtain ⟨c, hc, hcw⟩ := hkn f (List.mem_of_getElem? hf) hz
   obtain ⟨i, hi⟩ := List.getElem?_of_mem hc
   have hfn := (fnd_at hsort hi hcw).2.2
   have hw : wthC (fndC cs f.who) = ptH (fndC cs f.who) := by
    unfold wthC
    rw [if_neg (by rw [hfn, hcw]; exact hz)]
   rw [if_neg hz, hw]
   have h1 := hone n f hf hz
   unfold cpI
   cases hb : beqS f.who cap
   ·rw [Bool.or_false]
    obtain ⟨z, hz2⟩ : ∃ z, (if inF (fs.take n) cap = true ∧ cap.size ≠ 0 then wthC (fndC cs cap) else 0) = z := ⟨_, rfl⟩
    have t : (if false = true then (2 : Int) else 1) = 1 := rfl
    rw [hz2, t]
    omega
   ·have e := eq_of_beqS hb
    have t1 : (if inF (fs.take n) cap = true ∧ cap.size ≠ 0 then wthC (fndC cs cap) else 0) = 0 := if_neg (by rw [← e, h1]; simp)
    have t2 : (if (inF (fs.take n) cap || true) = true ∧ cap.size ≠ 0 then wthC (fndC cs cap) else 0) = ptH (fndC cs f.who) := by rw [if_pos (by rw [← e]; simp; exact fun h => hz (by rw [h]; rfl)), ← e, hw]
    have t : (if true = true then (2 : Int) else 1) = 2 := rfl
    rw [t1, t2, t]
    omega
theorem sum_eq {cs : List ScD} {fs : List FiD} {cap : ByteArray} (hsort : SortedK (cs.map ScD.who)) (hne : ∀ c ∈ cs, c.who.size ≠ 0)
  (hkn : ∀ f ∈ fs, f.who.size ≠ 0 → ∃ c ∈ cs, c.who = f.who) (hone : ∀ (i : Nat) (f : FiD), fs[i]? = some f → f.who.size ≠ 0 → inF (fs.take i) f.who = false) (hcap : cap.size = 0 ∨ inF fs cap = true) :
  smF cs fs cap = sumFi cs fs + wthC (fndC cs cap) := by
 unfold smF sumFi
 rw [sm_eq hsort hne hkn hone fs.length (Nat.le_refl _), List.take_length]
 by_cases hz : cap.size = 0
 ·have hnone : fndC cs cap = zeroC := (fnd_none hsort (fun c hc => by
   cases hb : beqS c.who cap
   ·rfl
   ·exact absurd ((congrArg ByteArray.size (eq_of_beqS hb)).trans hz) (hne c hc))).2
  rw [if_neg (by simp [hz]), hnone]
  rfl
 ·rw [if_pos ⟨by rcases hcap with h | h; exact absurd h hz; exact h, hz⟩]
end Go.Proofs.YtfcaokpadodijaaGreat
/- score.Bench: those who are in no slot. -/
namespace Go.Proofs.YtfcaokpadodijaaGreat
open Go.RowKit

set_option maxRecDepth 100000 in
set_option maxHeartbeats 4000000 in
theorem bench_calls (lo lo' lo3 : Nat) (v u z : Value) (ss : List SlD) (xs : List ScD) (fs : List FiD) (w : World) (hS : Sls w lo' v ss) (hs : ∀ c ∈ ss, SmallSl c) (hsn : ss.length ≤ 1000000) (hC : Scs w lo u xs) (hc : ∀ c ∈ xs, SmallSc c) (hn : xs.length ≤ 1000) (hlo : lo ≤ w.heap.size) (hF : Fis w lo3 z fs) (hfn : fs.length ≤ 1000000) :
  Calls Tryz.prog 11 #[v, u, z] w fun e w' => ∃ v', e = .returned (.tuple #[v', .int .i64 (chkFi ss xs fs)]) ∧ (chkFi ss xs fs = 0 → w'.ownsRow w.heap.size 9 1 v' (bnOf xs fs).length ((bnOf xs fs).map .string)) ∧ (chkFi ss xs fs ≠ 0 → v' = .slice none 0 0) ∧ Below w.heap.size w w' := by
 obtain ⟨i0, hi, hz0, hz1, hz2⟩ := info_parts info_str
 have CK := Lib.hid (checkFills_calls lo lo' lo3 v u z ss xs fs w hS hs hsn hC hc (by omega) hlo hF hfn)
 have Hat := Lib.hid (scs_at hC)
 obtain ⟨a, c, rfl⟩ := NRows.shape hC
 obtain ⟨a', c', hu⟩ := fis_shape hF
 have HF := Lib.hid (fun w' (hb : Below w.heap.size w w') => hF.below hb)
 obtain ⟨a2, c2, rfl⟩ := NRows.shape hS
 rw [hu] at HF CK ⊢
 obtain ⟨r, hr⟩ : ∃ r, chkFi ss xs fs = r := ⟨_, rfl⟩
 rw [hr] at CK ⊢
 clear hC hF hu hS hs hc hr
 go_enter Tryz.func11, Tryz.ntmps11
 go_wp2_with fail
 refine CK.out.mono ?_
 rintro e w0 ⟨rfl, hb0⟩
 by_cases h0 : r = 0
 case neg =>
  have h0' : (r != 0) = true := by simp [h0]
  have H0 := Lib.hid h0
  clear h0
  go_wp2_with fail
  go_ret2
  exact ⟨_, rfl, fun h => absurd h H0.out, fun _ => rfl, hb0⟩
 have h0' : (r != 0) = false := by simp [h0]
 go_wp2_with fail
 go_loopw [9, 21] (fun out i wr => ∃ k : Nat, k ≤ xs.length ∧ i = .int .i64 k ∧ wr.ownsRow w.heap.size 9 1 out (bnOf (xs.take k) fs).length ((bnOf (xs.take k) fs).map .string) ∧ Below w.heap.size w wr) (fun _ i _ => xs.length - (intOf i).toNat)
 case atStart => exact ⟨0, Nat.zero_le _, rfl, World.ownsRow_nil _ _ _ _, hb0⟩
 case round =>
  obtain ⟨k, hk, rfl, hown, hb⟩ := hrel
  by_cases hlt : k < xs.length
  ·obtain ⟨s, hs⟩ : ∃ s, xs[k]? = some s := ⟨xs[k], List.getElem?_eq_getElem hlt⟩
   rcases Hat.out with ⟨_, h⟩ | ⟨g, off, cap, e, _, hg, _, hcell⟩
   ·rw [h] at hlt; simp at hlt
   simp only [Value.slice.injEq] at e
   obtain ⟨rfl, -, rfl⟩ := e
   obtain ⟨pv, q0, q1, q2, q3, q4, hpv⟩ := hcell k s hs
   obtain ⟨pa, pc, rfl⟩ := strs_shape hpv
   have p0 := below_cell hb q0
   have p1 := below_cell hb q1
   have p2 := below_cell hb q2
   have p3 := below_cell hb q3
   have p4 := below_cell hb q4
   have Hnx := Lib.hid (bnOf_take (fs := fs) hs)
   have Hlen := Lib.hid (show (bnOf (xs.take k) fs).length ≤ 1000 from Nat.le_trans (bnOf_len _ _) (by simp; omega))
   clear hs hcell q0 q1 q2 q3 q4 hpv
   go_upto_region 8 with fail
   obtain ⟨wA, hwA⟩ : ∃ wA, wA = wr.alloc (.cells #[.string s.who, .slice pa s.pos.length pc, .int .i64 s.num, .int .i64 s.den, .bool s.played] 77) := ⟨_, rfl⟩
   have hbA : Below w.heap.size w wA := by rw [hwA]; exact below_step hb (below_alloc wr _)
   have hx : wA.heap[wr.heap.size]? = some (.cells #[.string s.who, .slice pa s.pos.length pc, .int .i64 s.num, .int .i64 s.den, .bool s.played] 77 (0, 0)) := by rw [hwA]; exact heap_alloc_new wr _
   have hownA := hown.alloc (.cells #[.string s.who, .slice pa s.pos.length pc, .int .i64 s.num, .int .i64 s.den, .bool s.played] 77)
   rw [← hwA] at hownA ⊢
   have x0 := cell_at hx 0 rfl
   have HC := Lib.hid (fielded_calls lo3 _ fs s.who wA (HF.out wA hbA))
   have Hx := Lib.hid hx
   clear hwA hx hb hown p0 p1 p2 p3 p4
   go_wp2_with fail
   refine HC.out.mono ?_
   rintro e w2 ⟨rfl, hb2⟩
   have z0 := cell_at (cells_later Hx.out hb2) 0 rfl
   have hown2 := World.ownsRow.kept hownA (gb_below hb2 none) (by cases hv : u9.ownBlock <;> simp)
   have hb02 := below_step hbA hb2
   clear HC hb2 hownA hbA
   cases hin : inF fs s.who
   ·rw [hin] at Hnx
    clear hin
    go_wp2_with (at_builtin; refine wpList_append_own _ rfl _ _ 39 rfl w.heap.size 9 i0 (.string ⟨#[]⟩) 1 16 Tryz.underlying39 hi hz0 hz1 hz2 rfl (by decide) _ _ _ rfl (hown2.alloc _) ⟨w2.heap.size, 0, none⟩ 1 1 [.string s.who] rfl rfl ?c1 ?c2 ?c3 ?c4 ?c5 ?_)
    case c1 => exact cells_new _ _ _
    case c2 => simp [Value.oneCell']
    case c3 => have := Hlen.out; unfold maxLen; omega
    case c4 => have := Hlen.out; have := hb02.size; omega
    case c5 => have := Hlen.out; have := hb02.size; simp; omega
    intro v' w4 hown4 hgrow _
    go_wp2_with fail
    go_roundw
    case rel =>
     refine ⟨k + 1, by omega, by go_num, by rw [Hnx.out]; simpa using hown4, (below_step hb02 (below_alloc w2 (.cells #[.string s.who] 9))).grown hgrow (by simp; have := hb02.size; omega) fun r hr => (own_block hown2 r hr).1⟩
    case measure => simp [intOf]; omega
   ·rw [hin] at Hnx
    clear hin
    go_wp2_with fail
    go_roundw
    case rel => exact ⟨k + 1, by omega, by go_num, by rw [Hnx.out]; simpa using hown2, hb02⟩
    case measure => simp [intOf]; omega
  ·obtain rfl : k = xs.length := by omega
   rw [List.take_length] at hown
   go_wp2_with fail
   go_ret2
   refine ⟨_, by rw [h0]; rfl, fun _ => hown, fun h => absurd h0 h, hb⟩
end Go.Proofs.YtfcaokpadodijaaGreat
namespace Go.Proofs.YtfcaokpadodijaaGreat
open Go.RowKit

theorem one_row {w : World} {T g sz cap : Nat} {row : List Value} (h : w.heap[g]? = some (.cells row.toArray T (0, 0))) (hr : row.length = sz) (hc : 1 ≤ cap) : Rows w T 0 sz (.slice (some ⟨g, 0, none⟩) 1 cap) [row] := by
 refine ⟨by simp, by simpa using hr, .inr ⟨g, 0, cap, _, _, rfl, ⟨Nat.zero_le _, by simpa using hc⟩, h, fun i j u hu => ?_⟩⟩
 match i, hu with
 | 0, hu => simpa using hu
 | i + 1, hu => simp at hu
def exR : RD := ⟨⟨#[114]⟩, E_goal, ⟨#[]⟩, 1, 0, 1, 2⟩
def exT : TD := ⟨E_goal, 3⟩
def exL : LD := ⟨E_a, 1, [exT]⟩
theorem ex_e : ptsE [exR] [] exL = 0 := by kernel_rfl
theorem ex_f : ptsF [exR] [] exL = (3, 2) := by kernel_rfl
set_option maxRecDepth 100000 in
set_option maxHeartbeats 2000000 in
theorem scored_calls (w : World) : Calls Tryz.prog 27 #[] w fun e w' => e = .returned (.bool true) ∧ Below w.heap.size w w' := by
 obtain ⟨W, hW⟩ : ∃ W, W = (w.alloc (.cells (rlRow exR).toArray 114)).alloc (.cells (stRow exT).toArray 117) := ⟨_, rfl⟩
 have hwW : Below w.heap.size w W := by rw [hW]; exact (below_alloc w _).trans ((below_alloc _ _).mono (by simp))
 have hx : W.heap[w.heap.size]? = some (.cells (rlRow exR).toArray 114 (0, 0)) := by rw [hW]; exact heap_al (heap_alloc_new w _) _
 have hy : W.heap[w.heap.size + 1]? = some (.cells (stRow exT).toArray 117 (0, 0)) := by
  rw [hW]; have := heap_alloc_new (w.alloc (.cells (rlRow exR).toArray 114)) (.cells (stRow exT).toArray 117); rwa [World.size_alloc] at this
 have hC := points2_calls 0 0 0 (.slice (some ⟨w.heap.size, 0, none⟩) 1 1) (.slice none 0 0) (.slice (some ⟨w.heap.size + 1, 0, none⟩) 1 1) [exR] [] exL W (one_row hx rfl (Nat.le_refl _)) (by simp [SmallR, exR, Int64]; decide) (by simp) ⟨by simp, by simp, .inl ⟨rfl, rfl⟩⟩ (by simp) (by simp) (one_row hy rfl (Nat.le_refl _)) (by simp [SmallL, SmallT, exL, exT, Int64]; decide)
 rw [ex_e, ex_f] at hC
 have HC := Lib.hid hC
 have HwW := Lib.hid hwW
 clear hx hy hwW hC
 unfold lnV exL exT E_a TwoIs frV at HC
 unfold rlRow stRow exR exT E_goal at hW
 go_enter Tryz.func27, Tryz.ntmps27
 go_wp2_with fail
 change Calls _ _ _ ((w.alloc (.cells #[.string ⟨#[114]⟩, .string ⟨#[103, 111, 97, 108]⟩, .string ⟨#[]⟩, .int .i64 1, .int .i64 0, .int .i64 1, .int .i64 2] 114)).alloc (.cells #[.string ⟨#[103, 111, 97, 108]⟩, .int .i64 3] 117)) _
 have HW := Lib.hid hW
 clear hW
 rw [← HW.out]
 refine HC.out.mono ?_
 rintro e w' ⟨rfl, hb'⟩
 have hb := below_step HwW.out hb'
 clear hb'
 go_wp2_with fail
 have hx := heap_alloc_new w' (.cells #[.int .i64 3, .int .i64 2] 34)
 have hb2 := below_step hb (below_alloc w' (.cells #[.int .i64 3, .int .i64 2] 34))
 go_ret
 exact ⟨rfl, hb2⟩
end Go.Proofs.YtfcaokpadodijaaGreat
