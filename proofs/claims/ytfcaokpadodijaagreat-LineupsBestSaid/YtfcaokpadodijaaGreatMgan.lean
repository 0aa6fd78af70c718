/- slices.Clone at strings. -/
import Derived.Test.YtfcaokpadodijaaGreatMgam
import Derived.Deep.CutRange
import Derived.Test.YtfcaokpadodijaaGreatMgaa
import Derived.Test.YtfcaokpadodijaaGreatMgah
import Derived.Test.YtfcaokpadodijaaGreatMgal
import Derived.Test.YtfcaokpadodijaaGreatMgak
import Derived.Test.YtfcaokpadodijaaGreatMgac
import Derived.Test.YtfcaokpadodijaaGreatMgaj
import Derived.Test.YtfcaokpadodijaaGreatMgag
import Derived.Test.YtfcaokpadodijaaGreatShelf
/- How statistics, lines and positions are drawn. -/
namespace Go.Proofs.YtfcaokpadodijaaGreat
open Go.RowKit

def E_goal : ByteArray := ⟨#[103, 111, 97, 108]⟩
def E_a : ByteArray := ⟨#[97]⟩
end Go.Proofs.YtfcaokpadodijaaGreat
/- How lines and worths are drawn. -/
namespace Go.Proofs.YtfcaokpadodijaaGreat
open Go.RowKit

theorem heap_gb {w w' : World} {B g : Nat} {o : Obj} (h : w.heap[g]? = some o) (hg : w.grownBy w' (some B)) (hne : g ≠ B) : w'.heap[g]? = some o :=
 (hg.block g (lt_of_heap h) (by intro e; cases e; exact hne rfl)).trans h
theorem heap_al {w : World} {g : Nat} {o : Obj} (h : w.heap[g]? = some o) (o' : Obj) : (w.alloc o').heap[g]? = some o := (heap_alloc_old w o' (lt_of_heap h)).trans h

theorem heap_far {w : World} {X Y o : Nat} {u : Value} {b : Obj} (h : w.heap[X]? = some b) (hne : X ≠ Y) : (w.setCell ⟨Y, o, none⟩ u).heap[X]? = some b := by
 rw [← h]
 exact Below.heap_setCell w _ u X (by simpa using hne)
theorem GS2 (w : World) (X : Nat) (a b : Value) : w.grownBy ((w.setCell ⟨X, 0, none⟩ a).setCell ⟨X, 1, none⟩ b) (some X) := gb_trans (gb_setCell _ _ _ _) (gb_setCell _ _ _ _)
end Go.Proofs.YtfcaokpadodijaaGreat
/- How worths and rules are drawn. -/
namespace Go.Proofs.YtfcaokpadodijaaGreat
open Go.RowKit

/-- The cells of some fractions. -/
def frCells (fs : List (Int × Int)) : List Value := (fs.map fun f => [Value.int .i64 f.1, .int .i64 f.2]).flatten
def worthsA : List (Int × Int) := [(1, 1), (4, 1), (1, 25), (1, 2), (-2, 1), (0, 1), (7, 100)]
def worthsB : List (Int × Int) := [(2, 4), (1, 3), (1, 0), (-1, -1), (1, 200), (10001, 1), (-9223372036854775808, 1), (1, 4611686018427387904), (0, 2)]
theorem fr_pick {fs : List (Int × Int)} (hfs : fs.all (fun f => decide (-9223372036854775808 ≤ f.1 ∧ f.1 ≤ 9223372036854775807 ∧ -9223372036854775808 ≤ f.2 ∧ f.2 ≤ 9223372036854775807)) = true) {w : World} {T g r : Nat} {cur : Array Value} (h : w.heap[g]? = some (.cells cur T (0, 0))) (hc : cur = (frCells fs).toArray) (hr : r < fs.length) :
  ∃ n d : Int, w.cell? ⟨g, r * 2, none⟩ = some (.int .i64 n) ∧ w.cell? ⟨g, r * 2 + 1, none⟩ = some (.int .i64 d) ∧ Int64 n ∧ Int64 d := by
 obtain ⟨f, hf⟩ : ∃ f, fs[r]? = some f := ⟨fs[r], List.getElem?_eq_getElem hr⟩
 have hm := (List.all_eq_true.1 hfs) f (List.mem_of_getElem? hf)
 simp only [decide_eq_true_eq] at hm
 have hx : ∀ (j : Nat) (u : Value), [Value.int .i64 f.1, .int .i64 f.2][j]? = some u → w.cell? ⟨g, r * 2 + j, none⟩ = some u := by
  intro j u hu
  have := flat_at (sz := 2) (fs.map fun f => [Value.int .i64 f.1, .int .i64 f.2]) (by
   intro x hx; obtain ⟨y, _, rfl⟩ := List.mem_map.1 hx; rfl) r j u (by simpa [hf] using hu)
  rw [cell_of_row w g _ cur T (0, 0) h, hc, List.getElem?_toArray]; exact this
 exact ⟨f.1, f.2, hx 0 _ rfl, hx 1 _ rfl, ⟨hm.1, hm.2.1⟩, hm.2.2⟩
def AFr (_ : World) (v : Value) : Prop := ∃ n d, v = frV (n, d) ∧ Int64 n ∧ Int64 d
set_option maxRecDepth 100000 in
set_option maxHeartbeats 2000000 in
theorem worth_calls (B N : Nat) (w : World) (hs : St w B N) (hN : N ≤ 3990000) :
  Calls Tryz.prog 41 #[.pointer (some ⟨B, 0, none⟩)] w (Made B (N + 4) AFr w) := by
 have hBw := hs.lt
 obtain ⟨C1, hC1⟩ : ∃ C1, C1 = (frCells worthsA).toArray := ⟨_, rfl⟩
 have hx0 := heap_alloc_new w (.cells #[.int .i64 0, .int .i64 0] 34)
 have hl0 := heap_alloc_new (w.alloc (.cells #[.int .i64 0, .int .i64 0] 34)) (.cells C1 34)
 have hx1 := heap_al hx0 (.cells C1 34)
 rw [World.size_alloc] at hl0
 go_enter Tryz.func41, Tryz.ntmps41
 go_wp2_with fail
 rw [show (#[Value.int .i64 1, .int .i64 1, .int .i64 4, .int .i64 1, .int .i64 1, .int .i64 25, .int .i64 1, .int .i64 2, .int .i64 (-2), .int .i64 1, .int .i64 0, .int .i64 1, .int .i64 7, .int .i64 100] : Array Value) = C1 from hC1.symm ▸ rfl]
 refine (next_calls B N 7 _ ((hs.alloc _).alloc _) (by omega) (by omega) (by omega)).mono ?_
 rintro e w1 ⟨v, ⟨r, rfl, hr⟩, rfl, hs1, hg1⟩
 have hx2 := heap_gb hx1 hg1 (by omega)
 have hl2 := heap_gb hl0 hg1 (by omega)
 obtain ⟨n, d, p0, p1, hn, hd⟩ := fr_pick (fs := worthsA) (by decide) hl2 hC1 (by show r < 7; omega)
 have Hn := Lib.hid hn
 have Hd := Lib.hid hd
 have hg01 : w.grownBy w1 (some B) := gb_trans (gb_alloc w _ _) (gb_trans (gb_alloc _ _ _) hg1)
 have hlt2 := lt_of_heap hx2
 clear hx0 hx1 hl0 hl2 hC1 hg1 hn hd hs
 go_wp2_with fail
 obtain ⟨X, hX⟩ : ∃ X, X = w1.heap.size := ⟨_, rfl⟩
 have hX0 : w.heap.size < X := by omega
 have hy3 : (w1.alloc (.cells #[.int .i64 n, .int .i64 d] 34)).heap[X]? = some (.cells #[.int .i64 n, .int .i64 d] 34 (0, 0)) := by rw [hX]; exact heap_alloc_new w1 _
 have hx3 := heap_al hx2 (.cells #[.int .i64 n, .int .i64 d] 34)
 refine (flip_calls B _ 25 _ (hs1.alloc _) (by omega) (by omega) (by omega)).mono ?_
 rintro e w2 ⟨v, ⟨b, rfl⟩, rfl, hs2, hg2⟩
 have hx4 := heap_gb hx3 hg2 (by omega)
 have hy4 := heap_gb hy3 hg2 (by omega)
 have hg02 : w.grownBy w2 (some B) := gb_trans hg01 (gb_trans (gb_alloc w1 _ _) hg2)
 rw [← hX]
 clear hx2 hx3 hy3 hg2 hs1 hg01 p0 p1 hX hlt2
 cases b
 ·have z0 := cell_at hx4 0 rfl
  have z1 := cell_at hx4 1 rfl; have f0 := free_of hx4 0; have f1 := free_of hx4 1; have y0 := cell_at hy4 0 rfl; have y1 := cell_at hy4 1 rfl; go_wp2_with fail
  try simp only [Exit.inBlock, Exit.then]
  refine bodyPost_ret (v := frV (n, d)) ?_ rfl ⟨_, ⟨n, d, rfl, Hn.out, Hd.out⟩, rfl, ?_, ?_⟩
  ·rw [results_cell1 rfl]
   unfold frV; go_simp
  ·exact (hs2.grown (GS2 _ w.heap.size _ _) fun r hr => by cases hr; exact hBw).mono (by omega)
  ·exact gb_then hg02 (GS2 _ w.heap.size _ _) fun r hr => by cases hr; exact Nat.le_refl _
 ·obtain ⟨C2, hC2⟩ : ∃ C2, C2 = (frCells worthsB).toArray := ⟨_, rfl⟩
  have hl5 := heap_alloc_new w2 (.cells C2 34); have hx5 := heap_al hx4 (.cells C2 34); have hy5 := heap_al hy4 (.cells C2 34); have hB2 := hs2.lt; go_wp2_with fail
  rw [show (#[Value.int .i64 2, .int .i64 4, .int .i64 1, .int .i64 3, .int .i64 1, .int .i64 0, .int .i64 (-1), .int .i64 (-1), .int .i64 1, .int .i64 200, .int .i64 10001, .int .i64 1, .int .i64 (-9223372036854775808), .int .i64 1, .int .i64 1, .int .i64 4611686018427387904, .int .i64 0, .int .i64 2] : Array Value) = C2 from hC2.symm ▸ rfl]
  refine (next_calls B _ 9 _ (hs2.alloc _) (by omega) (by omega) (by omega)).mono ?_
  rintro e w3 ⟨v, ⟨r, rfl, hr⟩, rfl, hs3, hg3⟩; have hx6 := heap_gb hx5 hg3 (by omega)
  have hy6 := heap_gb hy5 hg3 (by omega)
  have hl6 := heap_gb hl5 hg3 (by omega)
  have Hl6 := Lib.hid (lt_of_heap hl6); obtain ⟨n, d, p0, p1, hn, hd⟩ := fr_pick (fs := worthsB) (by decide) hl6 hC2 (by show r < 9; omega)
  have Hn := Lib.hid hn; have Hd := Lib.hid hd; have hg03 : w.grownBy w3 (some B) := gb_trans hg02 (gb_trans (gb_alloc w2 _ _) hg3)
  have z0 := cell_at hx6 0 rfl; have z1 := cell_at hx6 1 rfl; have f0 := free_of hx6 0; have f1 := free_of hx6 1; have y0 := cell_at hy6 0 rfl; have y1 := cell_at hy6 1 rfl; have g0 := free_of hy6 0; have g1 := free_of hy6 1; have hne : w.heap.size ≠ X := by omega
  clear hx4 hy4 hl5 hx5 hy5 hl6 hC2 hg3 hn hd hs2 hg02; go_wp2_with fail
  try simp only [Exit.inBlock, Exit.then]
  refine bodyPost_ret (v := frV (n, d)) ?_ rfl ⟨_, ⟨n, d, rfl, Hn.out, Hd.out⟩, rfl, ?_, ?_⟩
  ·rw [results_cell1 rfl]
   unfold frV; go_simp
  ·exact ((hs3.grown (GS2 _ X _ _) fun r hr => by cases hr; omega).grown (GS2 _ w.heap.size _ _) fun r hr => by cases hr; exact hBw).mono (by omega)
  ·exact gb_then (gb_then hg03 (GS2 _ X _ _) fun r hr => by cases hr; omega) (GS2 _ w.heap.size _ _) fun r hr => by cases hr; exact Nat.le_refl _
end Go.Proofs.YtfcaokpadodijaaGreat
/- How right slots and right scorers are drawn. -/
namespace Go.Proofs.YtfcaokpadodijaaGreat
open Go.RowKit

structure SlD where
 key : ByteArray
 pos : List ByteArray
structure ScD where
 who : ByteArray
 pos : List ByteArray
 num : Int
 den : Int
 played : Bool
def slRow (s : SlD) (x : Value) : List Value := [.string s.key, x]
def scRow (c : ScD) (x : Value) : List Value := [.string c.who, x, .int .i64 c.num, .int .i64 c.den, .bool c.played]
def Sls (w : World) (lo : Nat) (v : Value) (xs : List SlD) : Prop := NRows slRow SlD.pos w 72 lo 2 v xs
def Scs (w : World) (lo : Nat) (v : Value) (xs : List ScD) : Prop := NRows scRow ScD.pos w 77 lo 5 v xs
def OwnSl (w : World) (lo : Nat) (v : Value) (xs : List SlD) : Prop := NOwn slRow SlD.pos w 72 lo 2 v xs
def OwnSc (w : World) (lo : Nat) (v : Value) (xs : List ScD) : Prop := NOwn scRow ScD.pos w 77 lo 5 v xs
theorem info_sl : (Tryz.prog.info? 72).map (fun i => (i.zero, i.size, i.bytes)) = some (some (.agg #[.string ⟨#[]⟩, .slice none 0 0]), 2, 40) := by kernel_rfl
theorem info_sc : (Tryz.prog.info? 77).map (fun i => (i.zero, i.size, i.bytes)) = some (some (.agg #[.string ⟨#[]⟩, .slice none 0 0, .int .i64 0, .int .i64 0, .bool false]), 5, 64) := by kernel_rfl
def K_sa : ByteArray := ⟨#[115, 97]⟩
def K_sb : ByteArray := ⟨#[115, 98]⟩
def K_sc : ByteArray := ⟨#[115, 99]⟩
def K_sd : ByteArray := ⟨#[115, 100]⟩
def slotsO : Obj := .cells #[.string K_sb, .string K_sa, .string K_sc, .string K_sd] 9 (0, 0)
/-- What a slot holds is small. -/
def SmallSl (s : SlD) : Prop := s.key.size ≤ 1000 ∧ s.pos.length ≤ 5 ∧ ∀ k ∈ s.pos, k.size ≤ 1000
def TightSl (s : SlD) : Prop := s.key.size ≤ 1000 ∧ s.pos.length ≤ 4 ∧ ∀ k ∈ s.pos, k.size ≤ 1000
theorem TightSl.small {s : SlD} (h : TightSl s) : SmallSl s := ⟨h.1, by have := h.2.1; omega, h.2.2⟩
def SmallSc (c : ScD) : Prop := c.who.size ≤ 1000 ∧ c.pos.length ≤ 5 ∧ (∀ k ∈ c.pos, k.size ≤ 1000) ∧ Int64 c.num ∧ Int64 c.den
def RightSl (lo : Nat) (w : World) (v : Value) : Prop := ∃ xs : List SlD, OwnSl w lo v xs ∧ 1 ≤ xs.length ∧ xs.length ≤ 4 ∧ ∀ s ∈ xs, TightSl s
set_option maxRecDepth 100000 in
set_option maxHeartbeats 4000000 in
theorem rightSlots_calls (B N : Nat) (w : World) (hs : St w B N) (hN : N ≤ 3980000) :
  Calls Tryz.prog 36 #[.pointer (some ⟨B, 0, none⟩)] w (Made B (N + 40) (RightSl w.heap.size) w) := by
 obtain ⟨i0, hi, hz0, hz1, hz2⟩ := info_parts info_sl
 have hBw := hs.lt
 go_enter Tryz.func36, Tryz.ntmps36
 go_wp2_with fail
 refine (range_calls B N 1 4 _ (hs.alloc _) (by omega) (by omega) (by omega) (by omega)).mono ?_
 rintro e w1 ⟨v, ⟨m0, rfl, hm0, hm4⟩, rfl, hs1, hg1⟩
 have hk1 : w1.heap[w.heap.size]? = some slotsO := heap_gb (heap_alloc_new w _) hg1 (by omega)
 have hg01 : w.grownBy w1 (some B) := gb_trans (gb_alloc w _ _) hg1
 obtain ⟨n, rfl⟩ : ∃ n : Nat, m0 = (n : Int) := ⟨m0.toNat, by omega⟩
 have hn1 : 1 ≤ n := by omega
 have hn4 : n ≤ 4 := by omega
 clear hg1 hs hm0 hm4
 go_wp2_with fail
 go_loopw [3, 11] (fun out i wr => ∃ (j : Nat) (xs : List SlD), j ≤ n ∧ i = .int .i64 j ∧ xs.length = j ∧ Hid (∀ s ∈ xs, TightSl s) ∧ Hid (OwnSl wr (w.heap.size + 1) out xs) ∧ St wr B (N + 1 + 6 * j) ∧ w.grownBy wr (some B) ∧ wr.heap[w.heap.size]? = some slotsO) (fun _ i _ => n - (intOf i).toNat)
 case atStart => exact ⟨0, [], by omega, rfl, rfl, Lib.hid (by simp), Lib.hid (NOwn.nil _ _ _ _ _ _), hs1, hg01, hk1⟩
 case round =>
  obtain ⟨j, xs, hj, rfl, hkl, Hxs, Hown, hsr, hg, hk⟩ := hrel; clear hs1 hg01 hk1; by_cases hlt : j < n
  ·have hcell : ∃ k, k.size ≤ 1000 ∧ wr.cell? ⟨w.heap.size, j, none⟩ = some (.string k) := by
    rw [cell_of_row wr _ _ _ _ _ hk]; match j, (show j < 4 by omega) with
    | 0, _ => exact ⟨K_sb, by decide, rfl⟩
    | 1, _ => exact ⟨K_sa, by decide, rfl⟩
    | 2, _ => exact ⟨K_sc, by decide, rfl⟩
    | 3, _ => exact ⟨K_sd, by decide, rfl⟩
   obtain ⟨k, hkm, hcell⟩ := hcell; have Hkm := Lib.hid hkm; have hlk := lt_of_heap hk; have hlt' : (j : Int) < (n : Int) := by omega
   clear hkm; go_wp2_with fail
   refine (spots_calls B _ wr hsr (by omega)).mono ?_
   rintro e w3 ⟨pv, ⟨qs, hq0, hql, hqs⟩, rfl, hs3, hg3⟩; have hq := strs_of_owns hq0 (by omega)
   clear hq0; obtain ⟨qa, qc, rfl⟩ := strs_shape hq; have hown3 := NOwn.keep Hown.out hg3 (by omega)
   have hk3 := heap_gb hk hg3 (by omega)
   have hg03 := gb_trans hg hg3; have Hsm := Lib.hid (show TightSl ⟨k, qs⟩ from ⟨Hkm.out, by show qs.length ≤ 4; omega, fun x hx => small_of' (ks := spotKeys) (by decide) (hqs x hx)⟩)
   have Hq := Lib.hid (hq.mono (by omega : w.heap.size + 1 ≤ _))
   have hlk3 := lt_of_heap hk3; obtain ⟨pvs, hpv, hrow, hpos⟩ := hown3; have Hpos := Lib.hid hpos; have Hpv := Lib.hid hpv; have Hkl := Lib.hid hkl; have hxl : xs.length ≤ 4 := by omega
   clear hk hg hg3 hq hqs hql hpos Hown hsr hcell hpv hkl; go_wp2_with (at_builtin; refine wpList_append_own _ rfl _ _ 26 rfl (w.heap.size + 1) 72 i0 (.agg #[.string ⟨#[]⟩, .slice none 0 0]) 2 40 Tryz.underlying26 hi hz0 hz1 hz2 rfl (by decide) _ _ _ rfl (hrow.alloc _) ⟨w3.heap.size, 0, none⟩ 1 1 [.string k, .slice qa qs.length qc] rfl rfl ?c1 ?c2 ?c3 ?c4 ?c5 ?_)
   case c1 => exact cells_new _ _ _
   case c2 => simp [Value.oneCell']
   case c3 => unfold maxLen; omega
   case c4 => omega
   case c5 => simp; omega
   intro v' w4 hown4 hgrow _; go_wp2_with fail
   go_roundw
   case rel =>
    refine ⟨j + 1, xs ++ [⟨k, qs⟩], by omega, by go_num, by rw [List.length_append, Hkl.out]; rfl, Lib.hid fun x hx => ?_, Lib.hid ?_, ((hs3.alloc _).grown hgrow fun r hr => ?_).mono (by omega), gb_then (gb_trans hg03 (gb_alloc _ _ _)) hgrow fun r hr => ?_, (hgrow.block _ (by simp; omega) fun e => ?_).trans ((heap_alloc_old _ _ hlk3).trans hk3)⟩
    ·rcases List.mem_append.1 hx with h | h
     ·exact Hxs.out x h
     ·obtain rfl := List.mem_singleton.1 h; exact Hsm.out
    ·exact NOwn.snoc (x := .slice qa qs.length qc) Hpv.out (fun i x a hx ha => (Hpos.out i x a hx ha).below (below_alloc w3 _)) (Hq.out.below (below_alloc w3 _)) (by decide) (hrow.alloc _) hown4 hgrow
    ·have := (own_block hrow r hr).1; omega
    ·have := (own_block hrow r hr).1; omega
    ·have := (own_block hrow _ e.symm).1; omega
   case measure => simp [intOf]; omega
  ·obtain rfl : j = n := by omega
   clear hk; go_wp2_with fail
   go_ret
   exact ⟨_, ⟨xs, NOwn.mono Hown.out (by omega), by omega, by omega, Hxs.out⟩, rfl, hsr.mono (by omega), hg⟩
def P_ann : ByteArray := ⟨#[97, 110, 110]⟩
def P_bea : ByteArray := ⟨#[98, 101, 97]⟩
def P_cid : ByteArray := ⟨#[99, 105, 100]⟩
def P_dan : ByteArray := ⟨#[100, 97, 110]⟩
def P_eve : ByteArray := ⟨#[101, 118, 101]⟩
def P_fox : ByteArray := ⟨#[102, 111, 120]⟩
def scorersO : Obj := .cells #[.string P_ann, .string P_bea, .string P_cid, .string P_dan, .string P_eve, .string P_fox] 9 (0, 0)
def RightSc (lo : Nat) (w : World) (v : Value) : Prop := ∃ xs : List ScD, OwnSc w lo v xs ∧ xs.length ≤ 6 ∧ ∀ s ∈ xs, SmallSc s
set_option maxRecDepth 100000 in
set_option maxHeartbeats 4000000 in
theorem rightScorers_calls (B N : Nat) (w : World) (hs : St w B N) (hN : N ≤ 3980000) :
  Calls Tryz.prog 40 #[.pointer (some ⟨B, 0, none⟩)] w (Made B (N + 60) (RightSc w.heap.size) w) := by
 obtain ⟨i0, hi, hz0, hz1, hz2⟩ := info_parts info_sc
 have hBw := hs.lt
 go_enter Tryz.func40, Tryz.ntmps40
 go_wp2_with fail
 go_loopw [3, 8] (fun out i wr => ∃ (j : Nat) (xs : List ScD), j ≤ 6 ∧ i = .int .i64 j ∧ xs.length ≤ j ∧ Hid (∀ s ∈ xs, SmallSc s) ∧ Hid (OwnSc wr (w.heap.size + 1) out xs) ∧ St wr B (N + 9 * j) ∧ w.grownBy wr (some B) ∧ wr.heap[w.heap.size]? = some scorersO) (fun _ i _ => 6 - (intOf i).toNat)
 case atStart => exact ⟨0, [], by omega, rfl, Nat.le_refl _, Lib.hid (by simp), Lib.hid (NOwn.nil _ _ _ _ _ _), hs.alloc _, gb_alloc w _ _, heap_alloc_new w _⟩
 case round =>
  obtain ⟨j, xs, hj, rfl, hkl, Hxs, Hown, hsr, hg, hk⟩ := hrel; by_cases hlt : j < 6
  ·have hcell : ∃ k, k.size ≤ 1000 ∧ wr.cell? ⟨w.heap.size, j, none⟩ = some (.string k) := by
    rw [cell_of_row wr _ _ _ _ _ hk]; match j, hlt with
    | 0, _ => exact ⟨P_ann, by decide, rfl⟩
    | 1, _ => exact ⟨P_bea, by decide, rfl⟩
    | 2, _ => exact ⟨P_cid, by decide, rfl⟩
    | 3, _ => exact ⟨P_dan, by decide, rfl⟩
    | 4, _ => exact ⟨P_eve, by decide, rfl⟩
    | 5, _ => exact ⟨P_fox, by decide, rfl⟩
   obtain ⟨k, hkm, hcell⟩ := hcell; have Hkm := Lib.hid hkm; have hlk := lt_of_heap hk; clear hkm; go_wp2_with fail
   refine (flip_calls B _ 5 wr hsr (by omega) (by omega) (by omega)).mono ?_
   rintro e w1 ⟨v, ⟨b, rfl⟩, rfl, hs1, hg1⟩; have Hown1 := Lib.hid (NOwn.keep Hown.out hg1 (by omega))
   have hk1 := heap_gb hk hg1 (by omega)
   have hg01 := gb_trans hg hg1; clear Hown hsr hg1 hcell hk; cases b
   ·go_wp2_with fail
    refine (spots_calls B _ w1 hs1 (by omega)).mono ?_
    rintro e w3 ⟨pv, ⟨qs, hq0, hql, hqs⟩, rfl, hs3, hg3⟩; have hq := strs_of_owns hq0 (by omega)
    obtain ⟨qa, qc, rfl⟩ := strs_shape hq; have Hown3 := Lib.hid (NOwn.keep Hown1.out hg3 (by omega))
    have hk3 := heap_gb hk1 hg3 (by omega)
    have hg03 := gb_trans hg01 hg3; have hw1 := hs1.lt; have hsz1 : w.heap.size + 1 ≤ w1.heap.size := by have := lt_of_heap hk1; omega
    clear hs1 hg3 hq0 Hown1 hk1 hg01; go_wp2_with fail
    refine (pick_calls B _ w3.heap.size _ [500, 500, 700, 650, 0, -100, 1040] _ (hs3.alloc _) (by omega) (ints_new w3 [500, 500, 700, 650, 0, -100, 1040] (by decide)) hs3.lt (by simp)).mono ?_
    rintro e w5 ⟨v, ⟨c, rfl, hc⟩, rfl, hs5, hg5⟩
    have hcI : Int64 c := by
     simp only [List.mem_cons, List.not_mem_nil, or_false] at hc
     unfold Int64; omega
    have hg35 : w3.grownBy w5 (some B) := gb_trans (gb_alloc w3 (.cells ([500, 500, 700, 650, 0, -100, 1040].map (Value.int .i64)).toArray 3) (some B)) hg5
    have Hown5 := Lib.hid (NOwn.keep Hown3.out hg35 (by omega))
    have hq5 := hq.other hg35 (by omega)
    have hk5 := heap_gb hk3 hg35 (by omega)
    have hg05 := gb_trans hg03 hg35; clear hc hg5 hs3 hg03 hk3 hg35 hq Hown3; go_wp2_with fail
    refine (ofHundredthsR_calls c w5 hcI).mono ?_; rintro e w6 ⟨rfl, hb6⟩; have hs6 := hs5.below hb6; have Hown6 := Lib.hid (NOwn.below Hown5.out hb6); have hq6 := hq5.below hb6; have hk6 := cells_later hk5 hb6; have hg06 := gb_trans hg05 (gb_below hb6 (some B))
    have hfr : ∃ nu de : Int, frV (lowF c 100) = .agg #[.int .i64 nu, .int .i64 de] ∧ Int64 nu ∧ Int64 de :=
     ⟨_, _, rfl, tdiv_64 hcI (gcdI_pos (by omega)), tdiv_64 (show Int64 100 by unfold Int64; omega) (gcdI_pos (by omega))⟩
    obtain ⟨nu, de, hfr, hnu, hde⟩ := hfr; rw [hfr]; clear hs5 Hown5 hk5 hg05 hb6 hcI hfr hq5; go_wp2_with fail
    refine (flip_calls B _ 4 w6 hs6 (by omega) (by omega) (by omega)).mono ?_
    rintro e w7 ⟨v, ⟨pl, rfl⟩, rfl, hs7, hg7⟩; have hown7 := NOwn.keep Hown6.out hg7 (by omega)
    have hq7 := hq6.other hg7 (by omega)
    have hk7 := heap_gb hk6 hg7 (by omega)
    have hg07 := gb_trans hg06 hg7; have Hsm := Lib.hid (show SmallSc ⟨k, qs, nu, de, !pl⟩ from ⟨Hkm.out, by show qs.length ≤ 5; omega, fun x hx => small_of' (ks := spotKeys) (by decide) (hqs x hx), hnu, hde⟩)
    have hsz7 : w.heap.size + 1 ≤ w7.heap.size := by have := lt_of_heap hk7; omega
    have Hq := Lib.hid (hq7.mono hsz1); have hlk7 := lt_of_heap hk7; obtain ⟨pvs, hpv, hrow, hpos⟩ := hown7; have Hpos := Lib.hid hpos; have Hpv := Lib.hid hpv; clear hs6 hg06 hg7 hk6 hq6 hq7 hqs hql hpos Hown6 hpv hnu hde; go_wp2_with (at_builtin; refine wpList_append_own _ rfl _ _ 28 rfl (w.heap.size + 1) 77 i0 (.agg #[.string ⟨#[]⟩, .slice none 0 0, .int .i64 0, .int .i64 0, .bool false]) 5 64 Tryz.underlying28 hi hz0 hz1 hz2 rfl (by decide) _ _ _ rfl (hrow.alloc _) ⟨w7.heap.size, 0, none⟩ 1 1 [.string k, .slice qa qs.length qc, .int .i64 nu, .int .i64 de, .bool (!pl)] rfl rfl ?c1 ?c2 ?c3 ?c4 ?c5 ?_)
    case c1 => exact cells_new _ _ _
    case c2 => simp [Value.oneCell']
    case c3 => unfold maxLen; omega
    case c4 => omega
    case c5 => simp; omega
    intro v' w8 hown8 hgrow _; go_wp2_with fail
    go_roundw
    case rel =>
     refine ⟨j + 1, xs ++ [⟨k, qs, nu, de, !pl⟩], by omega, by go_num, by simp; omega, Lib.hid fun x hx => ?_, Lib.hid ?_, ((hs7.alloc _).grown hgrow fun r hr => ?_).mono (by omega), gb_then (gb_trans hg07 (gb_alloc _ _ _)) hgrow fun r hr => ?_, (hgrow.block _ (by simp; omega) fun e => ?_).trans ((heap_alloc_old _ _ hlk7).trans hk7)⟩
     ·rcases List.mem_append.1 hx with h | h
      ·exact Hxs.out x h
      ·obtain rfl := List.mem_singleton.1 h; exact Hsm.out
     ·exact NOwn.snoc (x := .slice qa qs.length qc) Hpv.out (fun i x a hx ha => (Hpos.out i x a hx ha).below (below_alloc w7 _)) (Hq.out.below (below_alloc w7 _)) (by decide) (hrow.alloc _) hown8 hgrow
     ·have := (own_block hrow r hr).1; omega
     ·have := (own_block hrow r hr).1; omega
     ·have := (own_block hrow _ e.symm).1; omega
    case measure => simp [intOf]; omega
   ·go_wp2_with fail
    go_roundw
    case rel => exact ⟨j + 1, xs, by omega, by go_num, by omega, Hxs, Hown1, hs1.mono (by omega), hg01, hk1⟩
    case measure => simp [intOf]; omega
  ·obtain rfl : j = 6 := by omega
   clear hk; go_wp2_with fail
   go_ret
   exact ⟨_, ⟨xs, NOwn.mono Hown.out (by omega), by omega, Hxs.out⟩, rfl, hsr.mono (by omega), hg⟩
end Go.Proofs.YtfcaokpadodijaaGreat
/- Scorers, drawn: one of them may be changed. -/
namespace Go.Proofs.YtfcaokpadodijaaGreat
open Go.RowKit

/-- Scorers in block g, one of which is written: the stream goes on. -/
def CS (w : World) (B g m i n : Nat) (w' : World) : Prop :=
 ∃ (xs : List ScD) (pvs : List Value) (c : ScD), xs.length = m ∧ pvs.length = xs.length ∧ xs[i]? = some c ∧ (∀ x ∈ xs, SmallSc x) ∧ RowsAt w' 77 g 0 5 (nRows scRow xs pvs) ∧
  (∀ (k : Nat) (x : Value) (a : ScD), pvs[k]? = some x → xs[k]? = some a → Strs w' w.heap.size x a.pos) ∧ St w' B n ∧ w.grownBy w' (some B)
theorem CS.st {w : World} {B g m i n : Nat} {w' : World} (h : CS w B g m i n w') : St w' B n := by obtain ⟨_, _, _, _, _, _, _, _, _, h, _⟩ := h; exact h
theorem CS.gb {w : World} {B g m i n : Nat} {w' : World} (h : CS w B g m i n w') : w.grownBy w' (some B) := by obtain ⟨_, _, _, _, _, _, _, _, _, _, h⟩ := h; exact h
theorem CS.step {w : World} {B g m i n k : Nat} {w' w'' : World} (h : CS w B g m i n w') (hs : St w'' B k) (hg : w'.grownBy w'' (some B)) (hne : g ≠ B) (hB : B < w.heap.size) : CS w B g m i k w'' := by
 obtain ⟨xs, pvs, c, h1, h2, h3, h4, h5, h6, h7, h8⟩ := h
 exact ⟨xs, pvs, c, h1, h2, h3, h4, h5.lift (hg.block g h5.lt (by intro e; cases e; exact hne rfl)), fun k x a hx ha => (h6 k x a hx ha).other hg hB, hs, gb_trans h8 hg⟩
theorem CS.alloc {w : World} {B g m i n : Nat} {w' : World} (h : CS w B g m i n w') (o : Obj) : CS w B g m i n (w'.alloc o) := by
 obtain ⟨xs, pvs, c, h1, h2, h3, h4, h5, h6, h7, h8⟩ := h
 exact ⟨xs, pvs, c, h1, h2, h3, h4, h5.below (below_alloc w' o), fun k x a hx ha => (h6 k x a hx ha).below (below_alloc w' o), h7.alloc o, gb_trans h8 (gb_alloc w' o _)⟩
theorem CS.cells {w : World} {B g m i n : Nat} {w' : World} (h : CS w B g m i n w') : ∃ c : ScD, SmallSc c ∧
  w'.cell? ⟨g, i * 5, none⟩ = some (.string c.who) ∧ w'.cell? ⟨g, i * 5 + 2, none⟩ = some (.int .i64 c.num) ∧ w'.cell? ⟨g, i * 5 + 3, none⟩ = some (.int .i64 c.den) ∧ ∀ o, w'.frozen? ⟨g, o, none⟩ = false := by
 obtain ⟨xs, pvs, c, h1, h2, h3, h4, h5, h6, h7, h8⟩ := h
 have hi : i < pvs.length := by have := (List.getElem?_eq_some_iff.1 h3).1; omega
 have hx : ∀ (j : Nat) (u : Value), (scRow c pvs[i])[j]? = some u → w'.cell? ⟨g, i * 5 + j, none⟩ = some u := fun j u hu => by
  have := h5.cell (i := i) (j := j) (nRows_get h3 (List.getElem?_eq_getElem hi)) hu
  simpa using this
 exact ⟨c, h4 c (List.mem_of_getElem? h3), hx 0 _ rfl, hx 2 _ rfl, hx 3 _ rfl, fun o => h5.free o⟩
/-- One cell of the scorer is written, not that of the positions. -/
theorem CS.put {w : World} {B g m i n : Nat} {w' : World} (h : CS w B g m i n w') (hB : B < w.heap.size) (hg : w.heap.size ≤ g) (f : Nat) (u : Value) (hf : f < 5) (hu : ∀ c : ScD, SmallSc c → ∃ c' : ScD, SmallSc c' ∧ c'.pos = c.pos ∧ ∀ x, (scRow c x).set f u = scRow c' x) : CS w B g m i n (w'.setCell ⟨g, i * 5 + f, none⟩ u) := by
 obtain ⟨xs, pvs, c, h1, h2, h3, h4, h5, h6, h7, h8⟩ := h
 obtain ⟨c', hc', hp, he⟩ := hu c (h4 c (List.mem_of_getElem? h3))
 have hi : i < xs.length := (List.getElem?_eq_some_iff.1 h3).1
 have hip : i < pvs.length := by omega
 have hs := h5.set (i := i) (f := f) (nRows_get h3 (List.getElem?_eq_getElem hip)) hf u
 have hset : (nRows scRow xs pvs).set i ((scRow c pvs[i]).set f u) = nRows scRow (xs.set i c') pvs := by
  refine List.ext_getElem? fun k => ?_
  unfold nRows; rw [he]; by_cases hk : k = i
  ·subst hk
   rw [List.getElem?_set_self (by rw [List.length_zipWith]; omega), List.getElem?_zipWith, List.getElem?_set_self hi, List.getElem?_eq_getElem hip]
  ·rw [List.getElem?_set_ne (fun e => hk e.symm), List.getElem?_zipWith, List.getElem?_zipWith, List.getElem?_set_ne (fun e => hk e.symm)]
 rw [hset, Nat.zero_add] at hs
 have hgr := gb_setCell w' g (i * 5 + f) u
 obtain ⟨cur, hcur⟩ := h5.heap
 refine ⟨xs.set i c', pvs, c', by simpa using h1, by simpa using h2, by simp [hi], fun x hx => ?_, hs, fun k x a hx ha => ?_, h7.grown hgr fun r hr => by cases hr; omega, gb_then h8 hgr fun r hr => by cases hr; exact hg⟩
 ·rcases List.mem_or_eq_of_mem_set hx with hx | rfl
  ·exact h4 x hx
  ·exact hc'
 ·have key : Strs w' w.heap.size x a.pos := by
   by_cases hk : k = i
   ·subst hk
    rw [List.getElem?_set_self hi] at ha
    cases ha
    rw [hp]; exact h6 k x c hx h3
   ·rw [List.getElem?_set_ne (fun e => hk e.symm)] at ha
    exact h6 k x a hx ha
  exact key.row hgr fun r hr => ⟨cur, _, _, by cases hr; exact hcur, by decide⟩
theorem CS.who {w : World} {B g m i n : Nat} {w' : World} (h : CS w B g m i n w') (hB : B < w.heap.size) (hg : w.heap.size ≤ g) (k : ByteArray) (hk : k.size ≤ 1000) : CS w B g m i n (w'.setCell ⟨g, i * 5, none⟩ (.string k)) :=
 h.put hB hg 0 _ (by omega) fun c hc => ⟨{ c with who := k }, ⟨hk, hc.2⟩, rfl, fun _ => rfl⟩
theorem CS.num {w : World} {B g m i n : Nat} {w' : World} (h : CS w B g m i n w') (hB : B < w.heap.size) (hg : w.heap.size ≤ g) (k : Int) (hk : Int64 k) : CS w B g m i n (w'.setCell ⟨g, i * 5 + 2, none⟩ (.int .i64 k)) :=
 h.put hB hg 2 _ (by omega) fun c hc => ⟨{ c with num := k }, ⟨hc.1, hc.2.1, hc.2.2.1, hk, hc.2.2.2.2⟩, rfl, fun _ => rfl⟩
theorem CS.den {w : World} {B g m i n : Nat} {w' : World} (h : CS w B g m i n w') (hB : B < w.heap.size) (hg : w.heap.size ≤ g) (k : Int) (hk : Int64 k) : CS w B g m i n (w'.setCell ⟨g, i * 5 + 3, none⟩ (.int .i64 k)) :=
 h.put hB hg 3 _ (by omega) fun c hc => ⟨{ c with den := k }, ⟨hc.1, hc.2.1, hc.2.2.1, hc.2.2.2.1, hk⟩, rfl, fun _ => rfl⟩
def SomeSc (lo : Nat) (w : World) (v : Value) : Prop := ∃ xs : List ScD, Scs w lo v xs ∧ xs.length ≤ 6 ∧ ∀ c ∈ xs, SmallSc c
theorem CS.made {w : World} {B g m i n c : Nat} {w' : World} (h : CS w B g m i n w') (hm : m ≤ 6) (hc : m ≤ c) (hg : w.heap.size ≤ g) : SomeSc w.heap.size w' (.slice (some ⟨g, 0, none⟩) m c) := by
 obtain ⟨xs, pvs, _, h1, h2, _, h4, h5, h6, _, _⟩ := h
 refine ⟨xs, ⟨pvs, h2, ?_, h6⟩, by omega, h4⟩
 have e := nRows_length (row := scRow) h2
 have := h5.rows (lo := w.heap.size) (cap := c) (by rw [e]; omega) hg (by rw [e]; omega)
 rw [e, h1] at this
 exact this
set_option maxRecDepth 100000 in
set_option maxHeartbeats 4000000 in
theorem scorers_calls (B N : Nat) (w : World) (hs : St w B N) (hN : N ≤ 3970000) :
  Calls Tryz.prog 6 #[.pointer (some ⟨B, 0, none⟩)] w (Made B (N + 80) (SomeSc w.heap.size) w) := by
 have hBw := hs.lt
 go_enter Tryz.func6, Tryz.ntmps6
 go_wp2_with fail
 refine (rightScorers_calls B N w hs (by omega)).mono ?_
 rintro e w1 ⟨v, ⟨xs, hown, hrl, hrs⟩, rfl, hs1, hg1⟩
 have Hrs := Lib.hid hrs
 clear hrs
 obtain ⟨pvs, hpv, hrow, hpos⟩ := hown
 have hlo : B < w.heap.size := hBw
 rcases hrow.2 with ⟨rfl, hnil⟩ | ⟨g, cap, cur, rfl, hgb, hgc, hle, _⟩
 ·have : xs = [] := List.eq_nil_of_length_eq_zero hnil
  subst this; have hR := (show OwnSc w1 w.heap.size (.slice none 0 0) [] from ⟨pvs, hpv, hrow, hpos⟩).rows (fun _ _ => rfl) (by simp)
  clear hrow hnil hrl; go_wp2_with fail
  go_ret
  exact ⟨_, ⟨[], hR, by simp, Hrs.out⟩, rfl, hs1.mono (by omega), hg1⟩
 ·have hl0 := nRows_length (row := scRow) hpv
  have hR := (show OwnSc w1 w.heap.size (.slice (some ⟨g, 0, none⟩) xs.length cap) xs from ⟨pvs, hpv, hrow, hpos⟩).rows (fun _ _ => rfl) (by omega)
  have HR := Lib.hid hR; obtain ⟨hat, _⟩ := RowsAt.of_owns (sz := 5) (rows := nRows scRow xs pvs) (by rw [hl0]; exact hrow) (nRows_each (row := scRow) (sz := 5) (fun _ _ => rfl) xs pvs)
  have hne : g ≠ B := by omega
  by_cases hz : xs.length = 0
  ·have hz' : xs = [] := List.eq_nil_of_length_eq_zero hz
   subst hz'
   clear hrow hz hrl hat hR; go_wp2_with fail
   go_ret
   exact ⟨_, ⟨[], HR.out, by simp, Hrs.out⟩, rfl, hs1.mono (by omega), hg1⟩
  ·have hpos0 : 0 < xs.length := by omega
   have Hat := Lib.hid hat; have Hpv := Lib.hid hpv; have Hpos := Lib.hid hpos; clear hrow hz hat hgc hR hpv hpos hl0; obtain ⟨m, hm⟩ : ∃ m, m = xs.length := ⟨_, rfl⟩
   have Hm := Lib.hid hm; rw [← hm] at hpos0 hrl hle ⊢
   clear hm; have hpos1 : (0 : Int) < (m : Int) := by omega
   go_wp2_with fail
   refine (flip_calls B _ 15 w1 hs1 (by omega) (by omega) (by omega)).mono ?_
   rintro e w2 ⟨v, ⟨b, rfl⟩, rfl, hs2, hg2⟩; cases b
   ·go_wp2_with fail
    go_ret
    exact ⟨_, ⟨xs, by have h := HR.out; rw [← Hm.out] at h; exact NRows.other h hg2 hBw, by rw [← Hm.out]; omega, Hrs.out⟩, rfl, hs2.mono (by omega), gb_trans hg1 hg2⟩
   ·go_wp2_with fail
    refine (next_calls B _ m w2 hs2 (by omega) (by omega) (by omega)).mono ?_
    rintro e w3 ⟨v, ⟨i, rfl, hi⟩, rfl, hs3, hg3⟩; have him : i < m := by omega
    have hX : CS w B g m i _ w3 := ⟨xs, pvs, xs[i]'(by have := Hm.out; omega), Hm.out.symm, Hpv.out, List.getElem?_eq_getElem _, Hrs.out, Hat.out.lift ((hg3.block g (by have := Hat.out.lt; have := hg2.size; omega) (by intro e; cases e; exact hne rfl)).trans (hg2.block g Hat.out.lt (by intro e; cases e; exact hne rfl))), fun k x a hx ha => ((Hpos.out k x a hx ha).other hg2 hBw).other hg3 hBw, hs3, gb_trans hg1 (gb_trans hg2 hg3)⟩
    obtain ⟨c, hc, c0, -, -, cf⟩ := hX.cells; have Hc := Lib.hid hc; clear hs1 hs2 hs3 hg1 hg2 hg3 Hat Hrs Hm Hpv Hpos HR hc; go_wp2_with fail
    refine (some_calls B _ w3.heap.size _ [c.who, ⟨#[]⟩, P_ann] _ (hX.st.alloc _) (by omega) (strs_new w3 [c.who, ⟨#[]⟩, P_ann] (by simp)) hX.st.lt (by simp)).mono ?_
    rintro e w4 ⟨v, ⟨k, rfl, hk⟩, rfl, hs4, hg4⟩
    have Hk := Lib.hid (show k.size ≤ 1000 by
     simp only [List.mem_cons, List.not_mem_nil, or_false] at hk
     rcases hk with rfl | rfl | rfl
     ·exact Hc.out.1
     ·decide
     ·decide)
    replace hX := (hX.alloc (.cells ([c.who, ⟨#[]⟩, P_ann].map Value.string).toArray 9)).step hs4 hg4 hne hBw; clear hk hs4 hg4 c0 cf; go_wp2_with fail
    refine (worth_calls B _ _ hX.st (by omega)).mono ?_
    rintro e w5 ⟨v, ⟨x, y, rfl, hx, hy⟩, rfl, hs5, hg5⟩; have Hx := Lib.hid hx; have Hy := Lib.hid hy; replace hX := hX.step hs5 hg5 hne hBw; obtain ⟨c', -, c0, c2, c3, cf⟩ := hX.cells; clear hx hy hs5 hg5 Hc; unfold frV; go_wp2_with fail
    go_ret
    have hY := ((hX.who hBw hgb k Hk.out).num hBw hgb x Hx.out).den hBw hgb y Hy.out; exact ⟨_, hY.made (by omega) hle hgb, rfl, hY.st.mono (by omega), hY.gb⟩
end Go.Proofs.YtfcaokpadodijaaGreat
/- A scorer found by name, on both sides. -/
namespace Go.Proofs.YtfcaokpadodijaaGreat
open Go.RowKit

theorem scs_at {w : World} {lo : Nat} {v : Value} {ts : List ScD} (h : Scs w lo v ts) :
  (v = .slice none 0 0 ∧ ts = []) ∨ ∃ g off cap, v = .slice (some ⟨g, off, none⟩) ts.length cap ∧ lo ≤ g ∧ g < w.heap.size ∧ ts.length ≤ 1000000 ∧
   ∀ (i : Nat) (c : ScD), ts[i]? = some c → ∃ x, w.cell? ⟨g, off + i * 5, none⟩ = some (.string c.who) ∧ w.cell? ⟨g, off + i * 5 + 1, none⟩ = some x ∧ w.cell? ⟨g, off + i * 5 + 2, none⟩ = some (.int .i64 c.num) ∧ w.cell? ⟨g, off + i * 5 + 3, none⟩ = some (.int .i64 c.den) ∧ w.cell? ⟨g, off + i * 5 + 4, none⟩ = some (.bool c.played) ∧ Strs w lo x c.pos := by
 rcases NRows.at h with h | ⟨g, off, cap, e1, e2, e3, e4, hc⟩
 ·exact .inl h
 ·refine .inr ⟨g, off, cap, e1, e2, e3, e4, fun i c hi => ?_⟩
  obtain ⟨x, h1, h2⟩ := hc i c hi; exact ⟨x, h1 0 _ rfl, h1 1 _ rfl, h1 2 _ rfl, h1 3 _ rfl, h1 4 _ rfl, h2⟩
theorem sc_of {ps : List ByteArray} {ts : List ScD} (h : ∀ i : Nat, ps[i]? = ts[i]?.map ScD.who) {i : Nat} (hi : i < ps.length) : ∃ t, ts[i]? = some t := by
 have := h i
 rw [List.getElem?_eq_getElem hi] at this
 cases ht : ts[i]? with
 | none => rw [ht] at this; simp at this
 | some t => exact ⟨t, rfl⟩
set_option maxRecDepth 100000 in
set_option maxHeartbeats 400000 in
theorem findc_calls (t : ScD) (xa : Option Addr) (xn xc : Nat) (who : ByteArray) (w : World) :
  Calls Tryz.prog 93 #[.agg #[.string t.who, .slice xa xn xc, .int .i64 t.num, .int .i64 t.den, .bool t.played], .string who] w (IntBelow (cmpS t.who who) w) := by
 go_enter Tryz.func93, Tryz.ntmps93
 go_wp2_with fail
 refine (strCompare_calls t.who who _).mono ?_
 rintro e w' ⟨rfl, rfl⟩
 rw [cmpS_eq]
 go_wp2_with fail
 go_ret
 exact ⟨rfl, below_alloc w _⟩

set_option maxRecDepth 100000 in
set_option maxHeartbeats 1000000 in
theorem searchSc_calls (lo : Nat) (who : ByteArray) (v : Value) (ts : List ScD) (w : World) (hp : Scs w lo v ts) :
  Calls Tryz.prog 92 #[v, .string who, .func (.func 93) #[] #[]] w (Found (ts.map ScD.who) who w) := by
 rcases scs_at hp with ⟨rfl, rfl⟩ | ⟨g, off, cap, rfl, _, hg, hn, hcell⟩
 ·clear hp
  go_enter Tryz.func92, Tryz.ntmps92; go_wp2
  refine wp_loop_rounds 1 ?_; rw [rounds_succ]; go_wp2
  go_ret2
  exact ⟨rfl, Below.refl _ _⟩
 ·clear hp
  obtain ⟨ps, hps⟩ : ∃ ps, ps = ts.map ScD.who := ⟨_, rfl⟩
  have hpl : ts.length = ps.length := by rw [hps]; simp
  have Hpt := Lib.hid (show ∀ i : Nat, ps[i]? = ts[i]?.map ScD.who from fun i => by rw [hps]; simp)
  have Hbs := Lib.hid hps; rw [← hps, hpl]; rw [hpl] at hn
  clear hps hpl; go_enter Tryz.func92, Tryz.ntmps92; go_wp2_with fail
  go_loopw [9, 10] (fun a b wr => ∃ i j : Nat, i ≤ j ∧ j ≤ ps.length ∧ a = .int .i64 i ∧ b = .int .i64 j ∧ Below w.heap.size w wr ∧ Hid (∃ f, bsI ps who = bs ps who f i j ∧ j - i ≤ f)) (fun a b _ => (intOf b).toNat - (intOf a).toNat)
  case atStart => exact ⟨0, ps.length, by omega, by omega, rfl, rfl, Below.refl _ _, Lib.hid ⟨ps.length, rfl, by omega⟩⟩
  case round =>
   obtain ⟨i, j, hij, hj, rfl, rfl, hb, Hf⟩ := hrel; by_cases hlt : i < j
   ·have hh : (i + j) / 2 < ps.length := by omega
    obtain ⟨p, hpt⟩ : ∃ p, ts[(i + j) / 2]? = some p := sc_of Hpt.out hh
    have Hk := Lib.hid (show keyAt ps ((i + j) / 2) = p.who from keyAt_some (by rw [Hpt.out, hpt]; rfl))
    obtain ⟨x, h0, h1, h2, h3, h4, hx⟩ := hcell _ p hpt; obtain ⟨xa, xc, rfl⟩ := strs_shape hx; have g0 := below_cell hb h0; have g1 := below_cell hb h1; have g2 := below_cell hb h2; have g3 := below_cell hb h3; have g4 := below_cell hb h4; clear hpt h0 h1 h2 h3 h4 hcell hx; go_wp2_with fail
    refine (findc_calls p xa p.pos.length xc who _).mono ?_; rintro e w' ⟨rfl, hb'⟩; have hb2 := hb.trans (hb'.mono hb.size); cases hl : ltS p.who who
    ·have e1 : decide (cmpS p.who who < 0) = false := by rw [cmpS_neg, hl]
     have Hf' := Lib.hid (show ∃ f, bsI ps who = bs ps who f i ((i + j) / 2) ∧ (i + j) / 2 - i ≤ f by
      obtain ⟨f, h1, h2⟩ := Hf.out; obtain ⟨f', h3, h4⟩ := bs_right hlt h2 (by rw [Hk.out]; exact hl)
      exact ⟨f', h1.trans h3, h4⟩)
     clear hl; go_wp2_with fail
     go_roundw
     case rel => exact ⟨i, (i + j) / 2, by omega, by omega, rfl, by go_num, hb2, Hf'⟩
     case measure => simp [intOf]; omega
    ·have e1 : decide (cmpS p.who who < 0) = true := by rw [cmpS_neg, hl]
     have Hf' := Lib.hid (show ∃ f, bsI ps who = bs ps who f ((i + j) / 2 + 1) j ∧ j - ((i + j) / 2 + 1) ≤ f by
      obtain ⟨f, h1, h2⟩ := Hf.out; obtain ⟨f', h3, h4⟩ := bs_left hlt h2 (by rw [Hk.out]; exact hl)
      exact ⟨f', h1.trans h3, h4⟩)
     clear hl; go_wp2_with fail
     go_roundw
     case rel => exact ⟨(i + j) / 2 + 1, j, by omega, by omega, by go_num, rfl, hb2, Hf'⟩
     case measure => simp [intOf]; omega
   ·obtain rfl : i = j := by omega
    have HI := Lib.hid (show bsI ps who = i by
     obtain ⟨f, h1, _⟩ := Hf.out; rw [h1, bs_end (by omega)])
    clear hlt hij; by_cases hin : i < ps.length
    ·obtain ⟨p, hpt⟩ : ∃ p, ts[i]? = some p := sc_of Hpt.out hin
     have Hk := Lib.hid (show keyAt ps i = p.who from keyAt_some (by rw [Hpt.out, hpt]; rfl))
     obtain ⟨x, h0, h1, h2, h3, h4, hx⟩ := hcell _ p hpt; obtain ⟨xa, xc, rfl⟩ := strs_shape hx; have g0 := below_cell hb h0; have g1 := below_cell hb h1; have g2 := below_cell hb h2; have g3 := below_cell hb h3; have g4 := below_cell hb h4; clear hpt h0 h1 h2 h3 h4 hcell hx; go_wp2_with fail
     refine (findc_calls p xa p.pos.length xc who _).mono ?_; rintro e w' ⟨rfl, hb'⟩; have hb2 := hb.trans (hb'.mono hb.size)
     have Hq := Lib.hid (show (cmpS p.who who == 0) = knownB ps who by
      unfold knownB; rw [HI.out, Hk.out]; simp only [hin, decide_true, Bool.true_and]; exact cmpS_zero _ _)
     have Hq' := Lib.hid (show (cmpS p.who who == 0) = true ∨ (cmpS p.who who == 0) = false by cases (cmpS p.who who == 0) <;> simp)
     rcases Hq'.out with hq | hq
     ·go_wp2_with fail
      go_ret2
      refine ⟨?_, hb2⟩; rw [HI.out, ← Hq.out, hq]; rfl
     ·go_wp2_with fail
      go_ret2
      refine ⟨?_, hb2⟩; rw [HI.out, ← Hq.out, hq]; rfl
    ·have Hq := Lib.hid (show knownB ps who = false by unfold knownB; rw [HI.out]; simp [hin])
     go_wp2_with fail
     go_ret2
     refine ⟨?_, hb⟩
     rw [HI.out, Hq.out]; rfl

theorem strs_nilF (w : World) (lo : Nat) : Strs w lo (.slice none 0 0) [] := ⟨by simp, by simp, .inl ⟨rfl, rfl⟩⟩
theorem below_set5 {b X : Nat} {w w' : World} (h : Below b w w') (hX : b ≤ X) (a0 a1 a2 a3 a4 : Value) : Below b w (((((w'.setCell ⟨X, 0, none⟩ a0).setCell ⟨X, 1, none⟩ a1).setCell ⟨X, 2, none⟩ a2).setCell ⟨X, 3, none⟩ a3).setCell ⟨X, 4, none⟩ a4) :=
 ((((h.setCell (p := ⟨X, 0, none⟩) hX _).setCell (p := ⟨X, 1, none⟩) hX _).setCell (p := ⟨X, 2, none⟩) hX _).setCell (p := ⟨X, 3, none⟩) hX _).setCell (p := ⟨X, 4, none⟩) hX _
def zeroC : ScD := ⟨⟨#[]⟩, [], 0, 0, false⟩
/-- Who is found by a name: nobody has the empty one. -/
def fndC (xs : List ScD) (k : ByteArray) : ScD := if knownB (xs.map ScD.who) k then xs[bsI (xs.map ScD.who) k]?.getD zeroC else zeroC
set_option maxRecDepth 100000 in
set_option maxHeartbeats 2000000 in
theorem find_calls (lo : Nat) (v : Value) (xs : List ScD) (k : ByteArray) (w : World) (hv : Scs w lo v xs) (hlo : lo ≤ w.heap.size) :
  Calls Tryz.prog 49 #[v, .string k] w fun e w' => ∃ x, e = .returned (.tuple #[.agg #[.string (fndC xs k).who, x, .int .i64 (fndC xs k).num, .int .i64 (fndC xs k).den, .bool (fndC xs k).played], .bool (knownB (xs.map ScD.who) k)]) ∧ Strs w' lo x (fndC xs k).pos ∧ Below w.heap.size w w' := by
 obtain ⟨W, hW⟩ : ∃ W, W = w.alloc (.cells #[.string ⟨#[]⟩, .slice none 0 0, .int .i64 0, .int .i64 0, .bool false] 77) := ⟨_, rfl⟩
 have hwW : Below w.heap.size w W := by rw [hW]; exact below_alloc w _
 have hx : W.heap[w.heap.size]? = some (.cells #[.string ⟨#[]⟩, .slice none 0 0, .int .i64 0, .int .i64 0, .bool false] 77 (0, 0)) := by rw [hW]; exact heap_alloc_new w _
 have hvW := NRows.below hv hwW
 have C := Lib.hid (searchSc_calls lo k v xs W hvW)
 have HV := Lib.hid hv
 obtain ⟨a, c, rfl⟩ := NRows.shape hv
 have HF0 := Lib.hid (show knownB (xs.map ScD.who) k = false → fndC xs k = zeroC from fun h => by unfold fndC; rw [h]; rfl)
 have HF1 := Lib.hid (show knownB (xs.map ScD.who) k = true → ∃ i, bsI (xs.map ScD.who) k = i ∧ i < xs.length ∧ xs[i]? = some (fndC xs k) from fun h => by
  have hl := known_lt h; rw [List.length_map] at hl
  refine ⟨_, rfl, hl, ?_⟩; unfold fndC; rw [h, if_pos rfl, List.getElem?_eq_getElem hl]; rfl)
 have HW := Lib.hid hW
 have Hx := Lib.hid hx
 generalize fndC xs k = F at HF0 HF1 ⊢
 generalize hK : knownB (xs.map ScD.who) k = K at HF0 HF1 ⊢
 clear hv hvW hW hx
 unfold Found at C
 rw [hK] at C
 clear hK
 go_enter Tryz.func49, Tryz.ntmps49
 go_upto_region 1 with fail
 rw [← HW.out]
 clear HW
 go_wp2_with fail
 refine C.out.mono ?_
 rintro e w1 ⟨rfl, hb1⟩
 have hb01 := hwW.trans (hb1.mono hwW.size)
 have Hx1 := Lib.hid (cells_later Hx.out hb1)
 cases K
 ·have hF := HF0.out rfl
  subst hF; have hx1 := Hx1.out; have x0 := cell_at hx1 0 rfl; have x1 := cell_at hx1 1 rfl; have x2 := cell_at hx1 2 rfl; have x3 := cell_at hx1 3 rfl; have x4 := cell_at hx1 4 rfl; have f0 := free_of hx1 0; have f1 := free_of hx1 1; have f2 := free_of hx1 2; have f3 := free_of hx1 3; have f4 := free_of hx1 4; clear C HF0 HF1 hx1; go_wp2_with fail
  try simp only [Exit.inBlock, Exit.then]
  refine bodyPost_ret (v := .tuple #[.agg #[.string ⟨#[]⟩, .slice none 0 0, .int .i64 0, .int .i64 0, .bool false], .bool false]) ?_ rfl ⟨_, rfl, strs_nilF _ _, below_set5 hb01 (Nat.le_refl _) _ _ _ _ _⟩; rw [results_cell_tmp rfl]; go_simp
 ·obtain ⟨i, hi, hil, hF⟩ := HF1.out rfl
  rw [hi]; rcases scs_at HV.out with ⟨_, h0⟩ | ⟨g, off, cap, e, hlo', hg, hn, hc⟩
  ·rw [h0] at hil; simp at hil
  simp only [Value.slice.injEq] at e
  obtain ⟨rfl, -, rfl⟩ := e; obtain ⟨x, b0, b1, b2, b3, b4, hsx⟩ := hc i F hF; have c0 := below_cell hb01 b0; have c1 := below_cell hb01 b1; have c2 := below_cell hb01 b2; have c3 := below_cell hb01 b3; have c4 := below_cell hb01 b4; have Hsx := Lib.hid hsx; obtain ⟨xa, xc, rfl⟩ := strs_shape hsx; have hx1 := Hx1.out; have x0 := cell_at hx1 0 rfl; have x1 := cell_at hx1 1 rfl; have x2 := cell_at hx1 2 rfl; have x3 := cell_at hx1 3 rfl; have x4 := cell_at hx1 4 rfl; have f0 := free_of hx1 0; have f1 := free_of hx1 1; have f2 := free_of hx1 2; have f3 := free_of hx1 3; have f4 := free_of hx1 4; have hlt : (i : Int) < (xs.length : Int) := by omega
  clear C HF0 HF1 hx1 hc hF hi hsx b0 b1 b2 b3 b4; go_wp2_with fail
  try simp only [Exit.inBlock, Exit.then]
  refine bodyPost_ret (v := .tuple #[.agg #[.string F.who, .slice xa F.pos.length xc, .int .i64 F.num, .int .i64 F.den, .bool F.played], .bool true]) ?_ rfl ⟨_, rfl, Hsx.out.below (below_set5 hb01 (Nat.le_refl _) _ _ _ _ _), below_set5 hb01 (Nat.le_refl _) _ _ _ _ _⟩; rw [results_cell_tmp rfl]; go_simp
end Go.Proofs.YtfcaokpadodijaaGreat
/- Did a scorer play; where a scorer is, on the reference's side. -/
namespace Go.Proofs.YtfcaokpadodijaaGreat
open Go.RowKit

/-- What a look for the first one gives. -/
def IdxFirstC (p : ScD → Bool) (fs : List ScD) (w : World) (e : Ending) (w' : World) : Prop :=
 ((e = .returned (.int .i64 (-1)) ∧ ∀ f ∈ fs, p f = false) ∨ ∃ i f, e = .returned (.int .i64 ((i : Nat) : Int)) ∧ fs[i]? = some f ∧ p f = true ∧ ∀ j g, j < i → fs[j]? = some g → p g = false) ∧ Below w.heap.size w w'
set_option maxRecDepth 100000 in
set_option maxHeartbeats 1000000 in
theorem indexSc_calls (g : Nat) (caps : Array Value) (p : ScD → Bool) (lo : Nat) (v : Value) (fs : List ScD) (w : World) (hv : Scs w lo v fs) (eg : ∀ args w, (callFunc g args).run Tryz.prog w = .ok (.enter g args) w)
  (hp : ∀ (W : World) (f : ScD) (xa : Option Addr) (xc : Nat), Below w.heap.size w W → Calls Tryz.prog g (#[.agg #[.string f.who, .slice xa f.pos.length xc, .int .i64 f.num, .int .i64 f.den, .bool f.played]] ++ caps) W (BoolIs (p f) W)) :
  Calls Tryz.prog 108 #[v, .func (.func g) #[] caps] w (IdxFirstC p fs w) := by
 have Hp := Lib.hid hp
 clear hp
 rcases scs_at hv with ⟨rfl, rfl⟩ | ⟨gg, off, cap, rfl, hlo, hg, hn, hcell⟩
 ·clear hv
  go_enter Tryz.func108, Tryz.ntmps108; go_wp2_with fail
  refine wp_loop_rounds 1 ?_; rw [rounds_succ]; go_wp2_with fail
  go_ret
  exact ⟨.inl ⟨rfl, by simp⟩, Below.refl _ _⟩
 ·have Hc := Lib.hid hcell
  clear hv hcell; go_enter Tryz.func108, Tryz.ntmps108; go_wp2_with fail
  go_loopw [8] (fun i wr => ∃ k : Nat, k ≤ fs.length ∧ i = .int .i64 k ∧ Hid (∀ j g, j < k → fs[j]? = some g → p g = false) ∧ Below w.heap.size w wr) (fun i _ => fs.length - (intOf i).toNat)
  case atStart => exact ⟨0, Nat.zero_le _, rfl, Lib.hid fun _ _ h => by omega, Below.refl _ _⟩
  case round =>
   obtain ⟨k, hk, rfl, H0, hb⟩ := hrel; by_cases hlt : k < fs.length
   ·obtain ⟨f, hf⟩ : ∃ f, fs[k]? = some f := ⟨fs[k], List.getElem?_eq_getElem hlt⟩
    obtain ⟨x, q0, q1, q2, q3, q4, hx⟩ := Hc.out k f hf; obtain ⟨xa, xc, rfl⟩ := strs_shape hx; have g0 := below_cell hb q0; have g1 := below_cell hb q1; have g2 := below_cell hb q2; have g3 := below_cell hb q3; have g4 := below_cell hb q4; have Hf := Lib.hid hf; clear hf q0 q1 q2 q3 q4 hx; go_wp2_with fail
    refine (Hp.out _ f xa xc hb).mono ?_; rintro e w1 ⟨rfl, hb1⟩; have hb2 := below_step hb hb1; clear g0 g1 g2 g3 g4; cases hpf : p f
    ·have H1 : Hid (∀ j g, j < k + 1 → fs[j]? = some g → p g = false) := Lib.hid fun j g hj hg' => by
      rcases Nat.lt_succ_iff_lt_or_eq.1 hj with h | rfl
      ·exact H0.out j g h hg'
      ·rw [Hf.out] at hg'; cases hg'; exact hpf
     clear hpf; go_wp2_with fail
     go_roundw
     case rel => exact ⟨k + 1, by omega, by go_num, H1, hb2⟩
     case measure => simp [intOf]; omega
    ·have Hq := Lib.hid hpf
     clear hpf; go_wp2_with fail
     go_ret
     exact ⟨.inr ⟨k, f, rfl, Hf.out, Hq.out, H0.out⟩, hb2⟩
   ·obtain rfl : k = fs.length := by omega
    go_wp2_with fail
    go_ret
    refine ⟨.inl ⟨rfl, fun f hf => ?_⟩, hb⟩
    obtain ⟨i, hi⟩ := List.getElem?_of_mem hf
    exact H0.out i f (List.getElem?_eq_some_iff.1 hi).1 hi

theorem scorerAt1_calls (f : ScD) (k : ByteArray) (xa : Option Addr) (n c X : Nat) (w : World) (hX : w.cell? ⟨X, 0, none⟩ = some (.string k)) :
  Calls Tryz.prog 109 #[.agg #[.string f.who, .slice xa n c, .int .i64 f.num, .int .i64 f.den, .bool f.played], .pointer (some ⟨X, 0, none⟩)] w (BoolIs (beqS f.who k) w) := by
 go_enter Tryz.func109, Tryz.ntmps109
 have hX1 := below_cell (below_alloc w (.cells #[.string f.who, .slice xa n c, .int .i64 f.num, .int .i64 f.den, .bool f.played] 77)) hX
 go_wp2_with fail
 go_ret
 exact ⟨ret_bool (by unfold beqS; rfl), below_alloc w _⟩
set_option maxHeartbeats 1000000 in
theorem scorerAt_calls (lo : Nat) (v : Value) (xs : List ScD) (k : ByteArray) (w : World) (hv : Scs w lo v xs) :
  Calls Tryz.prog 59 #[v, .string k] w (IdxFirstC (fun c => beqS c.who k) xs w) := by
 have hb0 := below_alloc w (.cells #[.string k] 9)
 have x0 : (w.alloc (.cells #[.string k] 9)).cell? ⟨w.heap.size, 0, none⟩ = some (.string k) := by rw [World.cell?_alloc_at _ _ _ _ rfl]; rfl
 have C := Lib.hid (indexSc_calls 109 #[.pointer (some ⟨w.heap.size, 0, none⟩)] (fun c => beqS c.who k) lo v xs _ (NRows.below hv hb0) (by intro args w; go_simp) (fun W f xa xc hb => scorerAt1_calls f k xa _ xc w.heap.size W (below_cell hb x0)))
 obtain ⟨a, c, rfl⟩ := NRows.shape hv
 clear hv x0
 go_enter Tryz.func59, Tryz.ntmps59
 go_wp2_with fail
 refine C.out.mono ?_
 rintro e w1 ⟨⟨rfl, h0⟩ | ⟨i, f, rfl, hf⟩, hb⟩
 ·clear C
  go_wp2_with fail
  go_ret
  exact ⟨.inl ⟨rfl, h0⟩, below_step hb0 hb⟩
 ·clear C
  go_wp2_with fail
  go_ret
  exact ⟨.inr ⟨i, f, rfl, hf⟩, below_step hb0 hb⟩
end Go.Proofs.YtfcaokpadodijaaGreat
/- Where names rise, whoever is found by halves is the one of that name. -/
namespace Go.Proofs.YtfcaokpadodijaaGreat
open Go.RowKit

theorem keyAt_who {xs : List ScD} {i : Nat} {c : ScD} (h : xs[i]? = some c) : keyAt (xs.map ScD.who) i = c.who := keyAt_some (by rw [List.getElem?_map, h]; rfl)
theorem fnd_at {xs : List ScD} {k : ByteArray} (hs : SortedK (xs.map ScD.who)) {i : Nat} {c : ScD} (hi : xs[i]? = some c) (hk : c.who = k) : knownB (xs.map ScD.who) k = true ∧ bsI (xs.map ScD.who) k = i ∧ fndC xs k = c := by
 have hK : knownB (xs.map ScD.who) k = true := by
  rw [known_eq hs]; unfold hasK; rw [List.any_eq_true]; exact ⟨c.who, List.mem_map_of_mem (List.mem_of_getElem? hi), beqS_iff.2 hk⟩
 have hil : i < xs.length := (List.getElem?_eq_some_iff.1 hi).1
 have hj := known_lt hK
 have hkj : keyAt (xs.map ScD.who) (bsI (xs.map ScD.who) k) = k := by
  have h := hK; unfold knownB at h
  rw [Bool.and_eq_true] at h
  exact beqS_iff.1 h.2
 have hki : keyAt (xs.map ScD.who) i = k := (keyAt_who hi).trans hk
 have hb : bsI (xs.map ScD.who) k = i := by
  rcases Nat.lt_trichotomy (bsI (xs.map ScD.who) k) i with h | h | h
  ·have := hs _ _ h (by rw [List.length_map]; exact hil)
   rw [hkj, hki, ltS_irrefl] at this; cases this
  ·exact h
  ·have := hs _ _ h hj
   rw [hkj, hki, ltS_irrefl] at this; cases this
 refine ⟨hK, hb, ?_⟩
 unfold fndC
 rw [hK, if_pos rfl, hb, hi]; rfl
theorem fnd_none {xs : List ScD} {k : ByteArray} (hs : SortedK (xs.map ScD.who)) (h : ∀ c ∈ xs, beqS c.who k = false) : knownB (xs.map ScD.who) k = false ∧ fndC xs k = zeroC := by
 have hK : knownB (xs.map ScD.who) k = false := by
  rw [known_eq hs]; unfold hasK; rw [List.any_eq_false]; intro p hp; obtain ⟨c, hc, rfl⟩ := List.mem_map.1 hp; rw [h c hc]; simp
 exact ⟨hK, by unfold fndC; rw [hK]; rfl⟩
end Go.Proofs.YtfcaokpadodijaaGreat
/- Slots looked through: IndexFunc and ContainsFunc with any predicate. -/
namespace Go.Proofs.YtfcaokpadodijaaGreat
open Go.RowKit

theorem sls_at {w : World} {lo : Nat} {v : Value} {ts : List SlD} (h : Sls w lo v ts) :
  (v = .slice none 0 0 ∧ ts = []) ∨ ∃ g off cap, v = .slice (some ⟨g, off, none⟩) ts.length cap ∧ lo ≤ g ∧ g < w.heap.size ∧ ts.length ≤ 1000000 ∧
   ∀ (i : Nat) (c : SlD), ts[i]? = some c → ∃ x, w.cell? ⟨g, off + i * 2, none⟩ = some (.string c.key) ∧ w.cell? ⟨g, off + i * 2 + 1, none⟩ = some x ∧ Strs w lo x c.pos := by
 rcases NRows.at h with h | ⟨g, off, cap, e1, e2, e3, e4, hc⟩
 ·exact .inl h
 ·refine .inr ⟨g, off, cap, e1, e2, e3, e4, fun i c hi => ?_⟩
  obtain ⟨x, h1, h2⟩ := hc i c hi; exact ⟨x, h1 0 _ rfl, h1 1 _ rfl, h2⟩
/-- What a look for the first one gives. -/
def IdxFirstL (p : SlD → Bool) (fs : List SlD) (w : World) (e : Ending) (w' : World) : Prop :=
 ((e = .returned (.int .i64 (-1)) ∧ ∀ f ∈ fs, p f = false) ∨ ∃ i f, e = .returned (.int .i64 ((i : Nat) : Int)) ∧ fs[i]? = some f ∧ p f = true ∧ ∀ j g, j < i → fs[j]? = some g → p g = false) ∧ Below w.heap.size w w'
set_option maxRecDepth 100000 in
set_option maxHeartbeats 1000000 in
theorem indexSl_calls (g : Nat) (caps : Array Value) (p : SlD → Bool) (lo : Nat) (v : Value) (fs : List SlD) (w : World) (hv : Sls w lo v fs) (eg : ∀ args w, (callFunc g args).run Tryz.prog w = .ok (.enter g args) w)
  (hp : ∀ (W : World) (f : SlD) (xa : Option Addr) (xc : Nat), Below w.heap.size w W → Calls Tryz.prog g (#[.agg #[.string f.key, .slice xa f.pos.length xc]] ++ caps) W (BoolIs (p f) W)) :
  Calls Tryz.prog 105 #[v, .func (.func g) #[] caps] w (IdxFirstL p fs w) := by
 have Hp := Lib.hid hp
 clear hp
 rcases sls_at hv with ⟨rfl, rfl⟩ | ⟨gg, off, cap, rfl, hlo, hg, hn, hcell⟩
 ·clear hv
  go_enter Tryz.func105, Tryz.ntmps105; go_wp2_with fail
  refine wp_loop_rounds 1 ?_; rw [rounds_succ]; go_wp2_with fail
  go_ret
  exact ⟨.inl ⟨rfl, by simp⟩, Below.refl _ _⟩
 ·have Hc := Lib.hid hcell
  clear hv hcell; go_enter Tryz.func105, Tryz.ntmps105; go_wp2_with fail
  go_loopw [8] (fun i wr => ∃ k : Nat, k ≤ fs.length ∧ i = .int .i64 k ∧ Hid (∀ j g, j < k → fs[j]? = some g → p g = false) ∧ Below w.heap.size w wr) (fun i _ => fs.length - (intOf i).toNat)
  case atStart => exact ⟨0, Nat.zero_le _, rfl, Lib.hid fun _ _ h => by omega, Below.refl _ _⟩
  case round =>
   obtain ⟨k, hk, rfl, H0, hb⟩ := hrel; by_cases hlt : k < fs.length
   ·obtain ⟨f, hf⟩ : ∃ f, fs[k]? = some f := ⟨fs[k], List.getElem?_eq_getElem hlt⟩
    obtain ⟨x, q0, q1, hx⟩ := Hc.out k f hf; obtain ⟨xa, xc, rfl⟩ := strs_shape hx; have g0 := below_cell hb q0; have g1 := below_cell hb q1; have Hf := Lib.hid hf; clear hf q0 q1 hx; go_wp2_with fail
    refine (Hp.out _ f xa xc hb).mono ?_; rintro e w1 ⟨rfl, hb1⟩; have hb2 := below_step hb hb1; clear g0 g1; cases hpf : p f
    ·have H1 : Hid (∀ j g, j < k + 1 → fs[j]? = some g → p g = false) := Lib.hid fun j g hj hg' => by
      rcases Nat.lt_succ_iff_lt_or_eq.1 hj with h | rfl
      ·exact H0.out j g h hg'
      ·rw [Hf.out] at hg'; cases hg'; exact hpf
     clear hpf; go_wp2_with fail
     go_roundw
     case rel => exact ⟨k + 1, by omega, by go_num, H1, hb2⟩
     case measure => simp [intOf]; omega
    ·have Hq := Lib.hid hpf
     clear hpf; go_wp2_with fail
     go_ret
     exact ⟨.inr ⟨k, f, rfl, Hf.out, Hq.out, H0.out⟩, hb2⟩
   ·obtain rfl : k = fs.length := by omega
    go_wp2_with fail
    go_ret
    refine ⟨.inl ⟨rfl, fun f hf => ?_⟩, hb⟩
    obtain ⟨i, hi⟩ := List.getElem?_of_mem hf
    exact H0.out i f (List.getElem?_eq_some_iff.1 hi).1 hi

/-- Is one of a list so? -/
theorem containsSl_calls (g : Nat) (caps : Array Value) (p : SlD → Bool) (lo : Nat) (v : Value) (fs : List SlD) (w : World) (hv : Sls w lo v fs) (eg : ∀ args w, (callFunc g args).run Tryz.prog w = .ok (.enter g args) w)
  (hp : ∀ (W : World) (f : SlD) (xa : Option Addr) (xc : Nat), Below w.heap.size w W → Calls Tryz.prog g (#[.agg #[.string f.key, .slice xa f.pos.length xc]] ++ caps) W (BoolIs (p f) W)) :
  Calls Tryz.prog 55 #[v, .func (.func g) #[] caps] w (BoolIs (fs.any p) w) := by
 have C := Lib.hid (indexSl_calls g caps p lo v fs w hv eg hp)
 obtain ⟨a, c, rfl⟩ := NRows.shape hv
 clear hv hp eg
 go_enter Tryz.func55, Tryz.ntmps55
 go_wp2_with fail
 refine C.out.mono ?_
 rintro e w1 ⟨⟨rfl, h0⟩ | ⟨i, f, rfl, hf, hpf, _⟩, hb⟩
 ·have hr : fs.any p = false := by rw [List.any_eq_false]; intro x hx; rw [h0 x hx]; simp
  clear C h0; go_wp2_with fail
  go_ret
  exact ⟨ret_bool (by rw [hr]), hb⟩
 ·have hr : fs.any p = true := List.any_eq_true.2 ⟨f, List.mem_of_getElem? hf, hpf⟩
  clear C hf hpf; go_wp2_with fail
  go_ret
  exact ⟨ret_bool (by rw [hr]), hb⟩
end Go.Proofs.YtfcaokpadodijaaGreat
/- CheckScorers. -/
namespace Go.Proofs.YtfcaokpadodijaaGreat
open Go.RowKit

/-- What is wrong with positions. -/
def poE (ks : List ByteArray) : Int := firstE [unlessE (decide (0 < ks.length)) 8, eachE ks.length 10 (risF ks)]
theorem poE_eq (ks : List ByteArray) : poE ks = lfE true ks := by
 unfold poE lfE
 cases ks with
 | nil => rfl
 | cons k ks =>
  have e : decide (0 < (k :: ks).length) = true := decide_eq_true (by simp)
  rw [e]; simp [unlessE, firstE]
  exact fun h => h.symm
set_option maxHeartbeats 1000000 in
theorem positions_calls (lo : Nat) (v : Value) (ks : List ByteArray) (w : World) (hK : Strs w lo v ks) (hk : ∀ k ∈ ks, k.size ≤ 1000) (hn : ks.length ≤ 1000000) :
  Calls Tryz.prog 72 #[v] w (IntBelow (poE ks) w) := by
 have C2 := fun w' (hb : Below w.heap.size w w') => Lib.hid (rising_calls lo v ks 10 w' (hK.below hb) hk hn)
 obtain ⟨a, c, rfl⟩ := strs_shape hK
 clear hK hk
 go_enter Tryz.func72, Tryz.ntmps72
 go_wp2_with fail
 refine (unless_calls _ _ _).mono ?_
 rintro e w1 ⟨rfl, rfl⟩
 go_wp2_with fail
 refine (C2 _ (Below.refl _ _)).out.mono ?_
 rintro e w2 ⟨rfl, hb2⟩
 go_wp2_with fail
 refine (orE_calls _ 0 2 [unlessE (decide (0 < ks.length)) 8, eachE ks.length 10 (risF ks)] _ (by simp) (by exact nums2 _ _ _ _)).mono ?_
 rintro e w3 ⟨rfl, rfl⟩
 go_wp2_with fail
 go_ret
 exact ⟨rfl, below_step hb2 (below_alloc _ _)⟩
def scAt (xs : List ScD) (i : Nat) : ScD := xs[i]?.getD zeroC
theorem scAt_some {xs : List ScD} {i : Nat} {c : ScD} (h : xs[i]? = some c) : scAt xs i = c := by simp [scAt, h]
/-- What is wrong with scorer i. -/
def scF (xs : List ScD) (i : Nat) : Int :=
 firstE [unlessE (keyB (scAt xs i).who) 5, unlessE (decide (i = 0) || ltS (scAt xs (i - 1)).who (scAt xs i).who) 7, poE (scAt xs i).pos, wrongF (scAt xs i).num (scAt xs i).den 10000]
def o73_2 : Array Go.Oper := #[
 ⟨some 9, .fieldAddr 77 (.tmp 4) 0, 0, "lineup.go:31", #[], none⟩,
 ⟨some 10, .load 9 (.tmp 9), 9, "lineup.go:31", #[⟨0, .data⟩], none⟩,
 ⟨some 11, .call { callee := .value (.func 71), args := #[.tmp 10], argTypes := #[9] }, 4, "lineup.go:32", #[⟨1, .data⟩], none⟩,
 ⟨some 12, .call { callee := .value (.func 47), args := #[.tmp 11, .const (.int .i64 5)], argTypes := #[4, 35] }, 35, "lineup.go:32", #[⟨2, .data⟩, ⟨2, .chain⟩], none⟩,
 ⟨some 13, .move (.tmp 0), 3, "lineup.go:31", #[], none⟩,
 ⟨some 14, .binOp .eql 3 (.tmp 13) (.const (.int .i64 0)) 3, 4, "lineup.go:31", #[⟨4, .data⟩], none⟩,
 ⟨some 15, .move (.tmp 14), 4, "lineup.go:31", #[⟨5, .data⟩, ⟨3, .chain⟩], none⟩,
 ⟨some 16, .load 28 (.tmp 1), 28, "lineup.go:31", #[⟨6, .guard⟩], some (6, false)⟩,
 ⟨some 17, .move (.tmp 0), 3, "lineup.go:31", #[⟨6, .guard⟩], some (6, false)⟩,
 ⟨some 18, .binOp .sub 3 (.tmp 17) (.const (.int .i64 1)) 3, 3, "lineup.go:31", #[⟨8, .data⟩, ⟨6, .guard⟩], some (6, false)⟩,
 ⟨some 19, .indexAddr 28 (.tmp 16) (.tmp 18), 0, "lineup.go:31", #[⟨7, .data⟩, ⟨9, .data⟩, ⟨6, .guard⟩], some (6, false)⟩,
 ⟨some 20, .fieldAddr 77 (.tmp 19) 0, 0, "lineup.go:31", #[⟨10, .data⟩, ⟨6, .guard⟩], some (6, false)⟩,
 ⟨some 21, .load 9 (.tmp 20), 9, "lineup.go:31", #[⟨11, .data⟩, ⟨6, .guard⟩], some (6, false)⟩,
 ⟨some 22, .fieldAddr 77 (.tmp 4) 0, 0, "lineup.go:31", #[⟨6, .guard⟩], some (6, false)⟩,
 ⟨some 23, .load 9 (.tmp 22), 9, "lineup.go:31", #[⟨13, .data⟩, ⟨6, .guard⟩], some (6, false)⟩,
 ⟨some 24, .binOp .lss 9 (.tmp 21) (.tmp 23) 9, 4, "lineup.go:31", #[⟨12, .data⟩, ⟨14, .data⟩, ⟨6, .guard⟩], some (6, false)⟩,
 ⟨some 25, .pick (.tmp 15) (.const (.bool true)) (.tmp 24), 4, "lineup.go:31", #[⟨6, .data⟩, ⟨15, .data⟩], none⟩,
 ⟨some 26, .call { callee := .value (.func 47), args := #[.tmp 25, .const (.int .i64 7)], argTypes := #[4, 35] }, 35, "lineup.go:33", #[⟨16, .data⟩, ⟨6, .chain⟩], none⟩,
 ⟨some 27, .fieldAddr 77 (.tmp 4) 1, 0, "lineup.go:31", #[], none⟩,
 ⟨some 28, .load 39 (.tmp 27), 39, "lineup.go:31", #[⟨18, .data⟩], none⟩,
 ⟨some 29, .call { callee := .value (.func 72), args := #[.tmp 28], argTypes := #[39] }, 35, "lineup.go:34", #[⟨19, .data⟩, ⟨17, .chain⟩], none⟩,
 ⟨some 30, .fieldAddr 77 (.tmp 4) 2, 0, "lineup.go:31", #[], none⟩,
 ⟨some 31, .load 34 (.tmp 30), 34, "lineup.go:31", #[⟨21, .data⟩], none⟩,
 ⟨some 32, .call { callee := .value (.func 74), args := #[.tmp 31, .const (.int .i64 10000)], argTypes := #[34, 3] }, 35, "lineup.go:35", #[⟨22, .data⟩, ⟨20, .chain⟩], none⟩,
 ⟨some 33, .buildSlice 90 4 #[(0, .tmp 12), (1, .tmp 26), (2, .tmp 29), (3, .tmp 32)], 90, "lineup.go:31", #[⟨3, .data⟩, ⟨17, .data⟩, ⟨20, .data⟩, ⟨23, .data⟩], none⟩,
 ⟨some 34, .call { callee := .value (.func 46), args := #[.tmp 33], argTypes := #[90] }, 35, "lineup.go:31", #[⟨24, .data⟩, ⟨23, .chain⟩], none⟩,
 ⟨some 3, .assign (.tmp 34), 35, "lineup.go:31", #[⟨25, .data⟩, ⟨25, .chain⟩, ⟨0, .phase⟩, ⟨1, .phase⟩, ⟨2, .phase⟩, ⟨3, .phase⟩, ⟨4, .phase⟩, ⟨5, .phase⟩, ⟨6, .phase⟩, ⟨7, .phase⟩, ⟨8, .phase⟩, ⟨9, .phase⟩, ⟨10, .phase⟩, ⟨11, .phase⟩, ⟨12, .phase⟩, ⟨13, .phase⟩, ⟨14, .phase⟩, ⟨15, .phase⟩, ⟨16, .phase⟩, ⟨17, .phase⟩, ⟨18, .phase⟩, ⟨19, .phase⟩, ⟨20, .phase⟩, ⟨21, .phase⟩, ⟨22, .phase⟩, ⟨23, .phase⟩, ⟨24, .phase⟩, ⟨25, .phase⟩], none⟩]
theorem o73_2_0 : o73_2[0]? = some (⟨some 9, .fieldAddr 77 (.tmp 4) 0, 0, "lineup.go:31", #[], none⟩ : Go.Oper) := rfl
theorem o73_2_1 : o73_2[1]? = some (⟨some 10, .load 9 (.tmp 9), 9, "lineup.go:31", #[⟨0, .data⟩], none⟩ : Go.Oper) := rfl
theorem o73_2_2 : o73_2[2]? = some (⟨some 11, .call { callee := .value (.func 71), args := #[.tmp 10], argTypes := #[9] }, 4, "lineup.go:32", #[⟨1, .data⟩], none⟩ : Go.Oper) := rfl
theorem o73_2_3 : o73_2[3]? = some (⟨some 12, .call { callee := .value (.func 47), args := #[.tmp 11, .const (.int .i64 5)], argTypes := #[4, 35] }, 35, "lineup.go:32", #[⟨2, .data⟩, ⟨2, .chain⟩], none⟩ : Go.Oper) := rfl
theorem o73_2_4 : o73_2[4]? = some (⟨some 13, .move (.tmp 0), 3, "lineup.go:31", #[], none⟩ : Go.Oper) := rfl
theorem o73_2_5 : o73_2[5]? = some (⟨some 14, .binOp .eql 3 (.tmp 13) (.const (.int .i64 0)) 3, 4, "lineup.go:31", #[⟨4, .data⟩], none⟩ : Go.Oper) := rfl
theorem o73_2_6 : o73_2[6]? = some (⟨some 15, .move (.tmp 14), 4, "lineup.go:31", #[⟨5, .data⟩, ⟨3, .chain⟩], none⟩ : Go.Oper) := rfl
theorem o73_2_7 : o73_2[7]? = some (⟨some 16, .load 28 (.tmp 1), 28, "lineup.go:31", #[⟨6, .guard⟩], some (6, false)⟩ : Go.Oper) := rfl
theorem o73_2_8 : o73_2[8]? = some (⟨some 17, .move (.tmp 0), 3, "lineup.go:31", #[⟨6, .guard⟩], some (6, false)⟩ : Go.Oper) := rfl
theorem o73_2_9 : o73_2[9]? = some (⟨some 18, .binOp .sub 3 (.tmp 17) (.const (.int .i64 1)) 3, 3, "lineup.go:31", #[⟨8, .data⟩, ⟨6, .guard⟩], some (6, false)⟩ : Go.Oper) := rfl
theorem o73_2_10 : o73_2[10]? = some (⟨some 19, .indexAddr 28 (.tmp 16) (.tmp 18), 0, "lineup.go:31", #[⟨7, .data⟩, ⟨9, .data⟩, ⟨6, .guard⟩], some (6, false)⟩ : Go.Oper) := rfl
theorem o73_2_11 : o73_2[11]? = some (⟨some 20, .fieldAddr 77 (.tmp 19) 0, 0, "lineup.go:31", #[⟨10, .data⟩, ⟨6, .guard⟩], some (6, false)⟩ : Go.Oper) := rfl
theorem o73_2_12 : o73_2[12]? = some (⟨some 21, .load 9 (.tmp 20), 9, "lineup.go:31", #[⟨11, .data⟩, ⟨6, .guard⟩], some (6, false)⟩ : Go.Oper) := rfl
theorem o73_2_13 : o73_2[13]? = some (⟨some 22, .fieldAddr 77 (.tmp 4) 0, 0, "lineup.go:31", #[⟨6, .guard⟩], some (6, false)⟩ : Go.Oper) := rfl
theorem o73_2_14 : o73_2[14]? = some (⟨some 23, .load 9 (.tmp 22), 9, "lineup.go:31", #[⟨13, .data⟩, ⟨6, .guard⟩], some (6, false)⟩ : Go.Oper) := rfl
theorem o73_2_15 : o73_2[15]? = some (⟨some 24, .binOp .lss 9 (.tmp 21) (.tmp 23) 9, 4, "lineup.go:31", #[⟨12, .data⟩, ⟨14, .data⟩, ⟨6, .guard⟩], some (6, false)⟩ : Go.Oper) := rfl
theorem o73_2_16 : o73_2[16]? = some (⟨some 25, .pick (.tmp 15) (.const (.bool true)) (.tmp 24), 4, "lineup.go:31", #[⟨6, .data⟩, ⟨15, .data⟩], none⟩ : Go.Oper) := rfl
theorem o73_2_17 : o73_2[17]? = some (⟨some 26, .call { callee := .value (.func 47), args := #[.tmp 25, .const (.int .i64 7)], argTypes := #[4, 35] }, 35, "lineup.go:33", #[⟨16, .data⟩, ⟨6, .chain⟩], none⟩ : Go.Oper) := rfl
theorem o73_2_18 : o73_2[18]? = some (⟨some 27, .fieldAddr 77 (.tmp 4) 1, 0, "lineup.go:31", #[], none⟩ : Go.Oper) := rfl
theorem o73_2_19 : o73_2[19]? = some (⟨some 28, .load 39 (.tmp 27), 39, "lineup.go:31", #[⟨18, .data⟩], none⟩ : Go.Oper) := rfl
theorem o73_2_20 : o73_2[20]? = some (⟨some 29, .call { callee := .value (.func 72), args := #[.tmp 28], argTypes := #[39] }, 35, "lineup.go:34", #[⟨19, .data⟩, ⟨17, .chain⟩], none⟩ : Go.Oper) := rfl
theorem o73_2_21 : o73_2[21]? = some (⟨some 30, .fieldAddr 77 (.tmp 4) 2, 0, "lineup.go:31", #[], none⟩ : Go.Oper) := rfl
theorem o73_2_22 : o73_2[22]? = some (⟨some 31, .load 34 (.tmp 30), 34, "lineup.go:31", #[⟨21, .data⟩], none⟩ : Go.Oper) := rfl
theorem o73_2_23 : o73_2[23]? = some (⟨some 32, .call { callee := .value (.func 74), args := #[.tmp 31, .const (.int .i64 10000)], argTypes := #[34, 3] }, 35, "lineup.go:35", #[⟨22, .data⟩, ⟨20, .chain⟩], none⟩ : Go.Oper) := rfl
theorem o73_2_24 : o73_2[24]? = some (⟨some 33, .buildSlice 90 4 #[(0, .tmp 12), (1, .tmp 26), (2, .tmp 29), (3, .tmp 32)], 90, "lineup.go:31", #[⟨3, .data⟩, ⟨17, .data⟩, ⟨20, .data⟩, ⟨23, .data⟩], none⟩ : Go.Oper) := rfl
theorem o73_2_25 : o73_2[25]? = some (⟨some 34, .call { callee := .value (.func 46), args := #[.tmp 33], argTypes := #[90] }, 35, "lineup.go:31", #[⟨24, .data⟩, ⟨23, .chain⟩], none⟩ : Go.Oper) := rfl
theorem o73_2_26 : o73_2[26]? = some (⟨some 3, .assign (.tmp 34), 35, "lineup.go:31", #[⟨25, .data⟩, ⟨25, .chain⟩, ⟨0, .phase⟩, ⟨1, .phase⟩, ⟨2, .phase⟩, ⟨3, .phase⟩, ⟨4, .phase⟩, ⟨5, .phase⟩, ⟨6, .phase⟩, ⟨7, .phase⟩, ⟨8, .phase⟩, ⟨9, .phase⟩, ⟨10, .phase⟩, ⟨11, .phase⟩, ⟨12, .phase⟩, ⟨13, .phase⟩, ⟨14, .phase⟩, ⟨15, .phase⟩, ⟨16, .phase⟩, ⟨17, .phase⟩, ⟨18, .phase⟩, ⟨19, .phase⟩, ⟨20, .phase⟩, ⟨21, .phase⟩, ⟨22, .phase⟩, ⟨23, .phase⟩, ⟨24, .phase⟩, ⟨25, .phase⟩], none⟩ : Go.Oper) := rfl
theorem o73_2_ns : Go.Region.noSelect o73_2 = true := by kernel_rfl
set_option maxRecDepth 100000 in
set_option maxHeartbeats 16000000 in
theorem checkScorers1_calls (b g off cap i lo : Nat) (xs : List ScD) (c : ScD) (w : World) (hi : xs[i]? = some c) (hs : SmallSc c) (hn : xs.length ≤ 1000000)
  (h1 : w.cell? ⟨b, 0, none⟩ = some (.slice (some ⟨g, off, none⟩) xs.length cap)) (hR : Scs w lo (.slice (some ⟨g, off, none⟩) xs.length cap) xs) :
  Calls Tryz.prog 73 #[.int .i64 (i : Int), .pointer (some ⟨b, 0, none⟩)] w (IntBelow (scF xs i) w) := by
 have hlt : i < xs.length := (List.getElem?_eq_some_iff.1 hi).1
 rcases scs_at hR with ⟨h, _⟩ | ⟨g', off', cap', e, _, _, _, hcell⟩
 ·cases h
 simp only [Value.slice.injEq, Option.some.injEq, Addr.mk.injEq, and_true, true_and] at e
 obtain ⟨⟨rfl, rfl⟩, rfl⟩ := e
 obtain ⟨pv, q0, q1, q2, q3, q4, hpv⟩ := hcell i c hi
 obtain ⟨pa, pc, rfl⟩ := strs_shape hpv
 obtain ⟨W, hW⟩ : ∃ W, W = w.alloc (.cells #[.string c.who, .slice pa c.pos.length pc, .int .i64 c.num, .int .i64 c.den, .bool c.played] 77) := ⟨_, rfl⟩
 have hwW : Below w.heap.size w W := by rw [hW]; exact below_alloc w _
 have hx : W.heap[w.heap.size]? = some (.cells #[.string c.who, .slice pa c.pos.length pc, .int .i64 c.num, .int .i64 c.den, .bool c.played] 77 (0, 0)) := by rw [hW]; exact heap_alloc_new w _
 have x0 := cell_at hx 0 rfl
 have x1 := cell_at hx 1 rfl
 have x2 := cell_at hx 2 rfl
 have x3 := cell_at hx 3 rfl
 have c1 := below_cell hwW h1
 have hb0 := (Below.refl W.heap.size W).drew
 obtain ⟨hs1, hs2, hs3, hs4, hs5⟩ := hs
 have H4 := Lib.hid hs4
 have H5 := Lib.hid hs5
 have HP := Lib.hid (show ∀ w', Below W.heap.size W w' → Calls Tryz.prog 72 #[.slice pa c.pos.length pc] w' (IntBelow (poE c.pos) w') from fun w' hb => positions_calls lo _ c.pos w' ((hpv.below hwW).below hb) hs3 (by omega))
 have HS0 := Lib.hid (show ∀ w', Below W.heap.size W w' → (Below W.heap.size W w' ∧ w'.cell? ⟨b, 0, none⟩ = some (.slice (some ⟨g, off, none⟩) xs.length cap) ∧ w'.cell? ⟨w.heap.size, 0, none⟩ = some (.string c.who) ∧ w'.cell? ⟨w.heap.size, 1, none⟩ = some (.slice pa c.pos.length pc) ∧ w'.cell? ⟨w.heap.size, 2, none⟩ = some (.int .i64 c.num) ∧ w'.cell? ⟨w.heap.size, 3, none⟩ = some (.int .i64 c.den)) from fun w' hb => ⟨hb, below_cell hb c1, below_cell hb x0, below_cell hb x1, below_cell hb x2, below_cell hb x3⟩)
 clear hs2 hs3 hs4 hs5 hx hpv
 by_cases hz : i = 0
 ·have e0 : ((i : Int) == 0) = true := by rw [beq_iff_eq]; omega
  have HS := HS0; have Hr := Lib.hid (show scF xs i = firstE [unlessE (keyB c.who) 5, unlessE true 7, poE c.pos, wrongF c.num c.den 10000] by rw [scF, scAt_some hi]; simp [hz])
  clear hi hz c1 x0 x1 x2 x3 hR hcell HS0; go_enter Tryz.func73, Tryz.ntmps73; go_upto_region 2 with fail
  rw [← hW]; clear hW; show Code.wp _ (Code.region 2 o73_2 true) _ _ _
  refine region_start 27 (fun w' => Below W.heap.size W w' ∧ w'.cell? ⟨b, 0, none⟩ = some (.slice (some ⟨g, off, none⟩) xs.length cap) ∧ w'.cell? ⟨w.heap.size, 0, none⟩ = some (.string c.who) ∧ w'.cell? ⟨w.heap.size, 1, none⟩ = some (.slice pa c.pos.length pc) ∧ w'.cell? ⟨w.heap.size, 2, none⟩ = some (.int .i64 c.num) ∧ w'.cell? ⟨w.heap.size, 3, none⟩ = some (.int .i64 c.den)) (by kernel_rfl) rfl ?_ (fun hHeld => ?_)
  ·(exact HS.out _ (by first | assumption | exact hHeld.1 | exact below_step hHeld.1 (by first | assumption | exact below_alloc _ _)))
  refine take_to 0 9 (bQ 27 1) (v := ?_) o73_2_0 rfl o73_2_ns (by kernel_rfl) (by kernel_rfl) (fun _ _ _ h => h) (by rfl) ?y01 (by assumption) ?_
  case y01 => intro w h; (try dsimp only at h); go_simp; try with_reducible rfl
  simp only [sE0, sE1]; refine take_to 1 10 (bQ 27 3) (v := ?_) o73_2_1 rfl o73_2_ns (by kernel_rfl) (by kernel_rfl) (fun _ _ _ h => h) (by rfl) ?y11 (by assumption) ?_
  case y11 => intro w h; (try dsimp only at h); go_simp; try with_reducible rfl
  simp only [sE0, sE1]; refine take_to 4 13 (bQ 27 19) (v := ?_) o73_2_4 rfl o73_2_ns (by kernel_rfl) (by kernel_rfl) (fun _ _ _ h => h) (by rfl) ?y41 (by assumption) ?_
  case y41 => intro w h; (try dsimp only at h); go_simp; try with_reducible rfl
  simp only [sE0, sE1]; refine take_to 5 14 (bQ 27 51) (v := ?_) o73_2_5 rfl o73_2_ns (by kernel_rfl) (by kernel_rfl) (fun _ _ _ h => h) (by rfl) ?y51 (by assumption) ?_
  case y51 => intro w h; (try dsimp only at h); go_simp; try with_reducible rfl
  simp only [sE0, sE1]; refine take_to 18 27 (bQ 27 262195) (v := ?_) o73_2_18 rfl o73_2_ns (by kernel_rfl) (by kernel_rfl) (fun _ _ _ h => h) (by rfl) ?y181 (by assumption) ?_
  case y181 => intro w h; (try dsimp only at h); go_simp; try with_reducible rfl
  simp only [sE0, sE1]; refine take_to 19 28 (bQ 27 786483) (v := ?_) o73_2_19 rfl o73_2_ns (by kernel_rfl) (by kernel_rfl) (fun _ _ _ h => h) (by rfl) ?y191 (by assumption) ?_
  case y191 => intro w h; (try dsimp only at h); go_simp; try with_reducible rfl
  simp only [sE0, sE1]; refine take_to 21 30 (bQ 27 2883635) (v := ?_) o73_2_21 rfl o73_2_ns (by kernel_rfl) (by kernel_rfl) (fun _ _ _ h => h) (by rfl) ?y211 (by assumption) ?_
  case y211 => intro w h; (try dsimp only at h); go_simp; try with_reducible rfl
  simp only [sE0, sE1]; refine take_to 22 31 (bQ 27 7077939) (v := ?_) o73_2_22 rfl o73_2_ns (by kernel_rfl) (by kernel_rfl) (fun _ _ _ h => h) (by rfl) ?y221 (by assumption) ?_
  case y221 => intro w h; (try dsimp only at h); go_simp; try with_reducible rfl
  simp only [sE0, sE1]; refine run_to 2 (bQ 27 7077943) o73_2_2 (by kernel_rfl) (by kernel_rfl) (by rfl) (fun K hK => ?_)
  go_simp; refine (key_calls _ _ (by omega)).mono ?_
  rintro e w' ⟨rfl, rfl⟩; go_wp2_with fail
  refine hK.out _ _ ?_ (fun hHeld => ?_)
  ·(exact HS.out _ (by first | assumption | exact hHeld.1 | exact below_step hHeld.1 (by first | assumption | exact below_alloc _ _)))
  clear hK K; try simp only [Act.put, sEt, sE0, sE1]
  refine run_to 3 (bQ 27 7077951) o73_2_3 (by kernel_rfl) (by kernel_rfl) (by rfl) (fun K hK => ?_)
  go_simp; refine (unless_calls _ _ _).mono ?_; rintro e w' ⟨rfl, rfl⟩; go_wp2_with fail
  refine hK.out _ _ ?_ (fun hHeld => ?_)
  ·(exact HS.out _ (by first | assumption | exact hHeld.1 | exact below_step hHeld.1 (by first | assumption | exact below_alloc _ _)))
  clear hK K; try simp only [Act.put, sEt, sE0, sE1]
  refine take_to 6 15 (bQ 27 7078015) (v := ?_) o73_2_6 rfl o73_2_ns (by kernel_rfl) (by kernel_rfl) (fun _ _ _ h => h) (by rfl) ?y61 (by assumption) ?_
  case y61 => intro w h; (try dsimp only at h); go_simp; try with_reducible rfl
  simp only [sE0, sE1]; refine skip_to 7 16 (bQ 27 7078143) o73_2_7 rfl o73_2_ns (by kernel_rfl) (by kernel_rfl) (fun _ _ _ h => h) (by rfl) (by assumption) ?_
  simp only [sE0, sE1]; refine skip_to 8 17 (bQ 27 7078399) o73_2_8 rfl o73_2_ns (by kernel_rfl) (by kernel_rfl) (fun _ _ _ h => h) (by rfl) (by assumption) ?_
  simp only [sE0, sE1]; refine skip_to 9 18 (bQ 27 7078911) o73_2_9 rfl o73_2_ns (by kernel_rfl) (by kernel_rfl) (fun _ _ _ h => h) (by rfl) (by assumption) ?_
  simp only [sE0, sE1]; refine skip_to 10 19 (bQ 27 7079935) o73_2_10 rfl o73_2_ns (by kernel_rfl) (by kernel_rfl) (fun _ _ _ h => h) (by rfl) (by assumption) ?_
  simp only [sE0, sE1]; refine skip_to 11 20 (bQ 27 7081983) o73_2_11 rfl o73_2_ns (by kernel_rfl) (by kernel_rfl) (fun _ _ _ h => h) (by rfl) (by assumption) ?_
  simp only [sE0, sE1]; refine skip_to 12 21 (bQ 27 7086079) o73_2_12 rfl o73_2_ns (by kernel_rfl) (by kernel_rfl) (fun _ _ _ h => h) (by rfl) (by assumption) ?_
  simp only [sE0, sE1]; refine skip_to 13 22 (bQ 27 7094271) o73_2_13 rfl o73_2_ns (by kernel_rfl) (by kernel_rfl) (fun _ _ _ h => h) (by rfl) (by assumption) ?_
  simp only [sE0, sE1]; refine skip_to 14 23 (bQ 27 7110655) o73_2_14 rfl o73_2_ns (by kernel_rfl) (by kernel_rfl) (fun _ _ _ h => h) (by rfl) (by assumption) ?_
  simp only [sE0, sE1]; refine skip_to 15 24 (bQ 27 7143423) o73_2_15 rfl o73_2_ns (by kernel_rfl) (by kernel_rfl) (fun _ _ _ h => h) (by rfl) (by assumption) ?_
  simp only [sE0, sE1]; refine take_to 16 25 (bQ 27 7208959) (v := ?_) o73_2_16 rfl o73_2_ns (by kernel_rfl) (by kernel_rfl) (fun _ _ _ h => h) (by rfl) ?y161 (by assumption) ?_
  case y161 => intro w h; (try dsimp only at h); go_simp; try with_reducible rfl
  simp only [sE0, sE1]; refine run_to 17 (bQ 27 7340031) o73_2_17 (by kernel_rfl) (by kernel_rfl) (by rfl) (fun K hK => ?_)
  go_simp; refine (unless_calls _ _ _).mono ?_; rintro e w' ⟨rfl, rfl⟩; go_wp2_with fail
  refine hK.out _ _ ?_ (fun hHeld => ?_)
  ·(exact HS.out _ (by first | assumption | exact hHeld.1 | exact below_step hHeld.1 (by first | assumption | exact below_alloc _ _)))
  clear hK K; try simp only [Act.put, sEt, sE0, sE1]
  refine run_to 20 (bQ 27 8388607) o73_2_20 (by kernel_rfl) (by kernel_rfl) (by rfl) (fun K hK => ?_)
  go_simp; refine (HP.out _ hHeld.1).mono ?_; rintro e w' ⟨rfl, hb⟩; go_wp2_with fail
  refine hK.out _ _ ?_ (fun hHeld => ?_)
  ·(exact HS.out _ (by first | assumption | exact hHeld.1 | exact below_step hHeld.1 (by first | assumption | exact below_alloc _ _)))
  clear hK K; try simp only [Act.put, sEt, sE0, sE1]
  refine run_to 23 (bQ 27 16777215) o73_2_23 (by kernel_rfl) (by kernel_rfl) (by rfl) (fun K hK => ?_)
  go_simp; refine (wrong_calls c.num c.den _ H4.out H5.out).mono ?_; rintro e w' ⟨rfl, hb⟩; go_wp2_with fail
  refine hK.out _ _ ?_ (fun hHeld => ?_)
  ·(exact HS.out _ (by first | assumption | exact hHeld.1 | exact below_step hHeld.1 (by first | assumption | exact below_alloc _ _)))
  clear hK K; try simp only [Act.put, sEt, sE0, sE1]
  refine run_to 24 (bQ 27 33554431) o73_2_24 (by kernel_rfl) (by kernel_rfl) (by rfl) (fun K hK => ?_)
  go_simp; refine hK.out _ _ ?_ (fun hHeld => ?_)
  ·(exact HS.out _ (by first | assumption | exact hHeld.1 | exact below_step hHeld.1 (by first | assumption | exact below_alloc _ _)))
  clear hK K; try simp only [Act.put, sEt, sE0, sE1]
  refine run_to 25 (bQ 27 67108863) o73_2_25 (by kernel_rfl) (by kernel_rfl) (by rfl) (fun K hK => ?_)
  go_simp; refine (orE_calls _ 0 4 [unlessE (keyB c.who) 5, unlessE true 7, poE c.pos, wrongF c.num c.den 10000] _ (by simp) (by exact nums4' _ _ _ _ _ _)).mono ?_
  rintro e w' ⟨rfl, rfl⟩; go_wp2_with fail
  refine hK.out _ _ ?_ (fun hHeld => ?_)
  ·(exact HS.out _ (by first | assumption | exact hHeld.1 | exact below_step hHeld.1 (by first | assumption | exact below_alloc _ _)))
  clear hK K; try simp only [Act.put, sEt, sE0, sE1]
  refine take_to 26 3 (bQ 27 134217727) (v := ?_) o73_2_26 rfl o73_2_ns (by kernel_rfl) (by kernel_rfl) (fun _ _ _ h => h) (by rfl) ?y261 (by assumption) ?_
  case y261 => intro w h; (try dsimp only at h); go_simp; try with_reducible rfl
  simp only [sE0, sE1]; refine wpAnyH_done (by kernel_rfl) ?_ _
  go_wp2_with fail
  go_ret
  exact ⟨ret_int Hr.out.symm, below_step hwW hHeld.1⟩
 ·obtain ⟨sp, hsp⟩ : ∃ sp, xs[i - 1]? = some sp := ⟨_, List.getElem?_eq_getElem (show i - 1 < xs.length by omega)⟩
  obtain ⟨_, r0, -⟩ := hcell (i - 1) sp hsp; have r0W := below_cell hwW r0; have e0 : ((i : Int) == 0) = false := by rw [beq_eq_false_iff_ne]; omega
  have w1 : IntKind.i64.wrap ((i : Int) - 1) = ((i - 1 : Nat) : Int) := by rw [IntWalk.i64_in _ (by omega)]; omega
  have w2 : ((i - 1 : Nat) : Int) < (xs.length : Int) := by omega
  have HS := Lib.hid (show ∀ w', Below W.heap.size W w' → (Below W.heap.size W w' ∧ w'.cell? ⟨b, 0, none⟩ = some (.slice (some ⟨g, off, none⟩) xs.length cap) ∧ w'.cell? ⟨w.heap.size, 0, none⟩ = some (.string c.who) ∧ w'.cell? ⟨w.heap.size, 1, none⟩ = some (.slice pa c.pos.length pc) ∧ w'.cell? ⟨w.heap.size, 2, none⟩ = some (.int .i64 c.num) ∧ w'.cell? ⟨w.heap.size, 3, none⟩ = some (.int .i64 c.den) ∧ w'.cell? ⟨g, off + (i - 1) * 5, none⟩ = some (.string sp.who)) from fun w' hb => ⟨hb, below_cell hb c1, below_cell hb x0, below_cell hb x1, below_cell hb x2, below_cell hb x3, below_cell hb r0W⟩)
  have Hr := Lib.hid (show scF xs i = firstE [unlessE (keyB c.who) 5, unlessE (ltS sp.who c.who) 7, poE c.pos, wrongF c.num c.den 10000] by rw [scF, scAt_some hi, scAt_some hsp]; simp [hz])
  clear hi hz c1 x0 x1 x2 x3 hR hcell HS0 r0 r0W hsp; go_enter Tryz.func73, Tryz.ntmps73; go_upto_region 2 with fail
  rw [← hW]; clear hW; show Code.wp _ (Code.region 2 o73_2 true) _ _ _
  refine region_start 27 (fun w' => Below W.heap.size W w' ∧ w'.cell? ⟨b, 0, none⟩ = some (.slice (some ⟨g, off, none⟩) xs.length cap) ∧ w'.cell? ⟨w.heap.size, 0, none⟩ = some (.string c.who) ∧ w'.cell? ⟨w.heap.size, 1, none⟩ = some (.slice pa c.pos.length pc) ∧ w'.cell? ⟨w.heap.size, 2, none⟩ = some (.int .i64 c.num) ∧ w'.cell? ⟨w.heap.size, 3, none⟩ = some (.int .i64 c.den) ∧ w'.cell? ⟨g, off + (i - 1) * 5, none⟩ = some (.string sp.who)) (by kernel_rfl) rfl ?_ (fun hHeld => ?_)
  ·(exact HS.out _ (by first | assumption | exact hHeld.1 | exact below_step hHeld.1 (by first | assumption | exact below_alloc _ _)))
  refine take_to 0 9 (bQ 27 1) (v := ?_) o73_2_0 rfl o73_2_ns (by kernel_rfl) (by kernel_rfl) (fun _ _ _ h => h) (by rfl) ?y00 (by assumption) ?_
  case y00 => intro w h; (try dsimp only at h); go_simp; try with_reducible rfl
  simp only [sE0, sE1]; refine take_to 1 10 (bQ 27 3) (v := ?_) o73_2_1 rfl o73_2_ns (by kernel_rfl) (by kernel_rfl) (fun _ _ _ h => h) (by rfl) ?y10 (by assumption) ?_
  case y10 => intro w h; (try dsimp only at h); go_simp; try with_reducible rfl
  simp only [sE0, sE1]; refine take_to 4 13 (bQ 27 19) (v := ?_) o73_2_4 rfl o73_2_ns (by kernel_rfl) (by kernel_rfl) (fun _ _ _ h => h) (by rfl) ?y40 (by assumption) ?_
  case y40 => intro w h; (try dsimp only at h); go_simp; try with_reducible rfl
  simp only [sE0, sE1]; refine take_to 5 14 (bQ 27 51) (v := ?_) o73_2_5 rfl o73_2_ns (by kernel_rfl) (by kernel_rfl) (fun _ _ _ h => h) (by rfl) ?y50 (by assumption) ?_
  case y50 => intro w h; (try dsimp only at h); go_simp; try with_reducible rfl
  simp only [sE0, sE1]; refine take_to 18 27 (bQ 27 262195) (v := ?_) o73_2_18 rfl o73_2_ns (by kernel_rfl) (by kernel_rfl) (fun _ _ _ h => h) (by rfl) ?y180 (by assumption) ?_
  case y180 => intro w h; (try dsimp only at h); go_simp; try with_reducible rfl
  simp only [sE0, sE1]; refine take_to 19 28 (bQ 27 786483) (v := ?_) o73_2_19 rfl o73_2_ns (by kernel_rfl) (by kernel_rfl) (fun _ _ _ h => h) (by rfl) ?y190 (by assumption) ?_
  case y190 => intro w h; (try dsimp only at h); go_simp; try with_reducible rfl
  simp only [sE0, sE1]; refine take_to 21 30 (bQ 27 2883635) (v := ?_) o73_2_21 rfl o73_2_ns (by kernel_rfl) (by kernel_rfl) (fun _ _ _ h => h) (by rfl) ?y210 (by assumption) ?_
  case y210 => intro w h; (try dsimp only at h); go_simp; try with_reducible rfl
  simp only [sE0, sE1]; refine take_to 22 31 (bQ 27 7077939) (v := ?_) o73_2_22 rfl o73_2_ns (by kernel_rfl) (by kernel_rfl) (fun _ _ _ h => h) (by rfl) ?y220 (by assumption) ?_
  case y220 => intro w h; (try dsimp only at h); go_simp; try with_reducible rfl
  simp only [sE0, sE1]; refine run_to 2 (bQ 27 7077943) o73_2_2 (by kernel_rfl) (by kernel_rfl) (by rfl) (fun K hK => ?_)
  go_simp; refine (key_calls _ _ (by omega)).mono ?_
  rintro e w' ⟨rfl, rfl⟩; go_wp2_with fail
  refine hK.out _ _ ?_ (fun hHeld => ?_)
  ·(exact HS.out _ (by first | assumption | exact hHeld.1 | exact below_step hHeld.1 (by first | assumption | exact below_alloc _ _)))
  clear hK K; try simp only [Act.put, sEt, sE0, sE1]
  refine run_to 3 (bQ 27 7077951) o73_2_3 (by kernel_rfl) (by kernel_rfl) (by rfl) (fun K hK => ?_)
  go_simp; refine (unless_calls _ _ _).mono ?_; rintro e w' ⟨rfl, rfl⟩; go_wp2_with fail
  refine hK.out _ _ ?_ (fun hHeld => ?_)
  ·(exact HS.out _ (by first | assumption | exact hHeld.1 | exact below_step hHeld.1 (by first | assumption | exact below_alloc _ _)))
  clear hK K; try simp only [Act.put, sEt, sE0, sE1]
  refine take_to 6 15 (bQ 27 7078015) (v := ?_) o73_2_6 rfl o73_2_ns (by kernel_rfl) (by kernel_rfl) (fun _ _ _ h => h) (by rfl) ?y60 (by assumption) ?_
  case y60 => intro w h; (try dsimp only at h); go_simp; try with_reducible rfl
  simp only [sE0, sE1]; refine take_to 7 16 (bQ 27 7078143) (v := ?_) o73_2_7 rfl o73_2_ns (by kernel_rfl) (by kernel_rfl) (fun _ _ _ h => h) (by rfl) ?y70 (by assumption) ?_
  case y70 => intro w h; (try dsimp only at h); go_simp; try with_reducible rfl
  simp only [sE0, sE1]; refine take_to 8 17 (bQ 27 7078399) (v := ?_) o73_2_8 rfl o73_2_ns (by kernel_rfl) (by kernel_rfl) (fun _ _ _ h => h) (by rfl) ?y80 (by assumption) ?_
  case y80 => intro w h; (try dsimp only at h); go_simp; try with_reducible rfl
  simp only [sE0, sE1]; refine take_to 9 18 (bQ 27 7078911) (v := ?_) o73_2_9 rfl o73_2_ns (by kernel_rfl) (by kernel_rfl) (fun _ _ _ h => h) (by rfl) ?y90 (by assumption) ?_
  case y90 => intro w h; (try dsimp only at h); go_simp; try with_reducible rfl
  simp only [sE0, sE1]; refine take_to 10 19 (bQ 27 7079935) (v := ?_) o73_2_10 rfl o73_2_ns (by kernel_rfl) (by kernel_rfl) (fun _ _ _ h => h) (by rfl) ?y100 (by assumption) ?_
  case y100 => intro w h; (try dsimp only at h); go_simp; try with_reducible rfl
  simp only [sE0, sE1]; refine take_to 11 20 (bQ 27 7081983) (v := ?_) o73_2_11 rfl o73_2_ns (by kernel_rfl) (by kernel_rfl) (fun _ _ _ h => h) (by rfl) ?y110 (by assumption) ?_
  case y110 => intro w h; (try dsimp only at h); go_simp; try with_reducible rfl
  simp only [sE0, sE1]; refine take_to 12 21 (bQ 27 7086079) (v := ?_) o73_2_12 rfl o73_2_ns (by kernel_rfl) (by kernel_rfl) (fun _ _ _ h => h) (by rfl) ?y120 (by assumption) ?_
  case y120 => intro w h; (try dsimp only at h); go_simp; try with_reducible rfl
  simp only [sE0, sE1]; refine take_to 13 22 (bQ 27 7094271) (v := ?_) o73_2_13 rfl o73_2_ns (by kernel_rfl) (by kernel_rfl) (fun _ _ _ h => h) (by rfl) ?y130 (by assumption) ?_
  case y130 => intro w h; (try dsimp only at h); go_simp; try with_reducible rfl
  simp only [sE0, sE1]; refine take_to 14 23 (bQ 27 7110655) (v := ?_) o73_2_14 rfl o73_2_ns (by kernel_rfl) (by kernel_rfl) (fun _ _ _ h => h) (by rfl) ?y140 (by assumption) ?_
  case y140 => intro w h; (try dsimp only at h); go_simp; try with_reducible rfl
  simp only [sE0, sE1]; refine take_to 15 24 (bQ 27 7143423) (v := ?_) o73_2_15 rfl o73_2_ns (by kernel_rfl) (by kernel_rfl) (fun _ _ _ h => h) (by rfl) ?y150 (by assumption) ?_
  case y150 => intro w h; (try dsimp only at h); go_simp; try with_reducible rfl
  simp only [sE0, sE1]; refine take_to 16 25 (bQ 27 7208959) (v := ?_) o73_2_16 rfl o73_2_ns (by kernel_rfl) (by kernel_rfl) (fun _ _ _ h => h) (by rfl) ?y160 (by assumption) ?_
  case y160 => intro w h; (try dsimp only at h); go_simp; try with_reducible rfl
  simp only [sE0, sE1]; refine run_to 17 (bQ 27 7340031) o73_2_17 (by kernel_rfl) (by kernel_rfl) (by rfl) (fun K hK => ?_)
  go_simp; refine (unless_calls _ _ _).mono ?_; rintro e w' ⟨rfl, rfl⟩; go_wp2_with fail
  refine hK.out _ _ ?_ (fun hHeld => ?_)
  ·(exact HS.out _ (by first | assumption | exact hHeld.1 | exact below_step hHeld.1 (by first | assumption | exact below_alloc _ _)))
  clear hK K; try simp only [Act.put, sEt, sE0, sE1]
  refine run_to 20 (bQ 27 8388607) o73_2_20 (by kernel_rfl) (by kernel_rfl) (by rfl) (fun K hK => ?_)
  go_simp; refine (HP.out _ hHeld.1).mono ?_; rintro e w' ⟨rfl, hb⟩; go_wp2_with fail
  refine hK.out _ _ ?_ (fun hHeld => ?_)
  ·(exact HS.out _ (by first | assumption | exact hHeld.1 | exact below_step hHeld.1 (by first | assumption | exact below_alloc _ _)))
  clear hK K; try simp only [Act.put, sEt, sE0, sE1]
  refine run_to 23 (bQ 27 16777215) o73_2_23 (by kernel_rfl) (by kernel_rfl) (by rfl) (fun K hK => ?_)
  go_simp; refine (wrong_calls c.num c.den _ H4.out H5.out).mono ?_; rintro e w' ⟨rfl, hb⟩; go_wp2_with fail
  refine hK.out _ _ ?_ (fun hHeld => ?_)
  ·(exact HS.out _ (by first | assumption | exact hHeld.1 | exact below_step hHeld.1 (by first | assumption | exact below_alloc _ _)))
  clear hK K; try simp only [Act.put, sEt, sE0, sE1]
  refine run_to 24 (bQ 27 33554431) o73_2_24 (by kernel_rfl) (by kernel_rfl) (by rfl) (fun K hK => ?_)
  go_simp; refine hK.out _ _ ?_ (fun hHeld => ?_)
  ·(exact HS.out _ (by first | assumption | exact hHeld.1 | exact below_step hHeld.1 (by first | assumption | exact below_alloc _ _)))
  clear hK K; try simp only [Act.put, sEt, sE0, sE1]
  refine run_to 25 (bQ 27 67108863) o73_2_25 (by kernel_rfl) (by kernel_rfl) (by rfl) (fun K hK => ?_)
  go_simp; refine (orE_calls _ 0 4 [unlessE (keyB c.who) 5, unlessE (ltS sp.who c.who) 7, poE c.pos, wrongF c.num c.den 10000] _ (by simp) (by exact nums4' _ _ _ _ _ _)).mono ?_
  rintro e w' ⟨rfl, rfl⟩; go_wp2_with fail
  refine hK.out _ _ ?_ (fun hHeld => ?_)
  ·(exact HS.out _ (by first | assumption | exact hHeld.1 | exact below_step hHeld.1 (by first | assumption | exact below_alloc _ _)))
  clear hK K; try simp only [Act.put, sEt, sE0, sE1]
  refine take_to 26 3 (bQ 27 134217727) (v := ?_) o73_2_26 rfl o73_2_ns (by kernel_rfl) (by kernel_rfl) (fun _ _ _ h => h) (by rfl) ?y260 (by assumption) ?_
  case y260 => intro w h; (try dsimp only at h); go_simp; try with_reducible rfl
  simp only [sE0, sE1]; refine wpAnyH_done (by kernel_rfl) ?_ _
  go_wp2_with fail
  go_ret
  exact ⟨ret_int Hr.out.symm, below_step hwW hHeld.1⟩

def chkSc (xs : List ScD) : Int := eachE xs.length 20 (scF xs)
set_option maxRecDepth 100000 in
set_option maxHeartbeats 2000000 in
theorem checkScorers_calls (lo : Nat) (v : Value) (xs : List ScD) (w : World) (hR : Scs w lo v xs) (hs : ∀ c ∈ xs, SmallSc c) (hn : xs.length ≤ 1000000) :
  Calls Tryz.prog 24 #[v] w (IntBelow (chkSc xs) w) := by
 obtain ⟨a, c, rfl⟩ := NRows.shape hR
 have hb := below_alloc w (.cells #[.slice a xs.length c] 28)
 have x0 : (w.alloc (.cells #[.slice a xs.length c] 28)).cell? ⟨w.heap.size, 0, none⟩ = some (.slice a xs.length c) := by rw [World.cell?_alloc_at _ _ _ _ rfl]; rfl
 have Hs := Lib.hid hs
 have hf : ∀ (W : World) (i : Nat), i < xs.length → Below (w.alloc (.cells #[.slice a xs.length c] 28)).heap.size (w.alloc (.cells #[.slice a xs.length c] 28)) W → Calls Tryz.prog 73 (#[.int .i64 (i : Int)] ++ #[.pointer (some ⟨w.heap.size, 0, none⟩)]) W (IntBelow (scF xs i) W) := by
  intro W i hi hbW; obtain ⟨r, hr⟩ : ∃ r, xs[i]? = some r := ⟨xs[i], List.getElem?_eq_getElem hi⟩
  have hRW : Scs W lo (.slice a xs.length c) xs := NRows.below (NRows.below hR hb) hbW
  have y0 := below_cell hbW x0; rcases scs_at hRW with ⟨_, rfl⟩ | ⟨g, off, cap, e, _⟩
  ·simp at hi
  ·rw [e] at hRW y0
   exact checkScorers1_calls w.heap.size g off cap i lo xs r W hr (Hs.out r (List.mem_of_getElem? hr)) hn y0 hRW
 have Hf := Lib.hid hf
 have Hb := Lib.hid hb
 clear hf hs hR hb
 go_enter Tryz.func24, Tryz.ntmps24
 go_wp2_with fail
 refine (each_calls 73 #[.pointer (some ⟨w.heap.size, 0, none⟩)] (enters_of Tryz.func73 (by kernel_rfl) rfl) (scF xs) xs.length 20 _ hn Hf.out).mono ?_
 rintro e w' ⟨rfl, hb⟩
 go_wp2_with fail
 go_ret
 exact ⟨rfl, below_step Hb.out hb⟩
end Go.Proofs.YtfcaokpadodijaaGreat
/- The numbers below n in some order, drawn. -/
namespace Go.Proofs.YtfcaokpadodijaaGreat
open Go.RowKit

theorem info_int : (Tryz.prog.info? 3).map (fun i => (i.zero, i.size, i.bytes)) = some (some (.int .i64 0), 1, 8) := by kernel_rfl
def inRow (i : Nat) : List Value := [.int .i64 (i : Int)]
/-- Numbers below m in block g: the stream goes on. -/
def OrS (w : World) (B g m n : Nat) (w' : World) : Prop :=
 ∃ is : List Nat, is.length = m ∧ (∀ x ∈ is, x < m) ∧ RowsAt w' 3 g 0 1 (is.map inRow) ∧ St w' B n ∧ w.grownBy w' (some B)
theorem OrS.st {w : World} {B g m n : Nat} {w' : World} (h : OrS w B g m n w') : St w' B n := by obtain ⟨_, _, _, _, h, _⟩ := h; exact h
theorem OrS.gb {w : World} {B g m n : Nat} {w' : World} (h : OrS w B g m n w') : w.grownBy w' (some B) := by obtain ⟨_, _, _, _, _, h⟩ := h; exact h
theorem OrS.mono {w : World} {B g m n k : Nat} {w' : World} (h : OrS w B g m n w') (hk : n ≤ k) : OrS w B g m k w' := by
 obtain ⟨rs, h1, h2, h3, h4, h5⟩ := h; exact ⟨rs, h1, h2, h3, h4.mono hk, h5⟩
theorem OrS.step {w : World} {B g m n k : Nat} {w' w'' : World} (h : OrS w B g m n w') (hs : St w'' B k) (hg : w'.grownBy w'' (some B)) (hne : g ≠ B) : OrS w B g m k w'' := by
 obtain ⟨rs, h1, h2, h3, h4, h5⟩ := h
 exact ⟨rs, h1, h2, h3.lift (hg.block g h3.lt (by intro e; cases e; exact hne rfl)), hs, gb_trans h5 hg⟩
theorem OrS.drew {w : World} {B g m n : Nat} {w' : World} (h : OrS w B g m n w') : OrS w B g m n w'.drew := by
 obtain ⟨rs, h1, h2, h3, h4, h5⟩ := h
 exact ⟨rs, h1, h2, h3, h4, gb_trans h5 (gb_drewN w' 1 _)⟩
theorem OrS.free {w : World} {B g m n : Nat} {w' : World} (h : OrS w B g m n w') (o : Nat) : w'.frozen? ⟨g, o, none⟩ = false := by
 obtain ⟨rs, h1, h2, h3, h4, h5⟩ := h; exact h3.free o
theorem OrS.cell {w : World} {B g m n : Nat} {w' : World} (h : OrS w B g m n w') {i : Nat} (hi : i < m) : ∃ x : Nat, x < m ∧ w'.cell? ⟨g, i, none⟩ = some (.int .i64 (x : Int)) := by
 obtain ⟨rs, h1, h2, h3, h4, h5⟩ := h
 obtain ⟨x, hx⟩ : ∃ x, rs[i]? = some x := ⟨_, List.getElem?_eq_getElem (by omega)⟩
 have := h3.cell (i := i) (j := 0) (r := inRow x) (u := .int .i64 (x : Int)) (by simp [hx]) rfl
 exact ⟨x, h2 x (List.mem_of_getElem? hx), by simpa using this⟩
theorem OrS.put {w : World} {B g m n : Nat} {w' : World} (h : OrS w B g m n w') (hB : B < w.heap.size) (hg : w.heap.size ≤ g) {i x : Nat} (hi : i < m) (hx : x < m) : OrS w B g m n (w'.setCell ⟨g, i, none⟩ (.int .i64 (x : Int))) := by
 obtain ⟨rs, h1, h2, h3, h4, h5⟩ := h
 have hi' : i < rs.length := by omega
 have hs := h3.set (i := i) (f := 0) (row := inRow rs[i]) (by simp [hi']) (by omega) (.int .i64 (x : Int))
 have he : (inRow rs[i]).set 0 (.int .i64 (x : Int)) = inRow x := rfl
 rw [he, Nat.zero_add, ← List.map_set, Nat.mul_one] at hs
 have hgr := gb_setCell w' g i (.int .i64 (x : Int))
 refine ⟨rs.set i x, by simpa using h1, fun y hy => ?_, hs, h4.grown hgr fun r hr => by cases hr; omega, gb_then h5 hgr fun r hr => by cases hr; exact hg⟩
 rcases List.mem_or_eq_of_mem_set hy with hy | rfl
 ·exact h2 y hy
 ·exact hx
/-- What Order answers. -/
def OrdV (lo n : Nat) (w : World) (v : Value) : Prop := ∃ is : List Nat, Rows w 3 lo 1 v (is.map inRow) ∧ is.length = n ∧ ∀ x ∈ is, x < n
theorem OrS.made {w : World} {B g m n c : Nat} {w' : World} (h : OrS w B g m n w') (hm : m ≤ 1000) (hc : m ≤ c) (hg : w.heap.size ≤ g) : OrdV w.heap.size m w' (.slice (some ⟨g, 0, none⟩) m c) := by
 obtain ⟨rs, h1, h2, h3, h4, h5⟩ := h
 have := h3.rows (lo := w.heap.size) (cap := c) (by simp; omega) hg (by simp; omega)
 rw [List.length_map, h1] at this
 exact ⟨rs, this, h1, h2⟩
theorem OrdV.shape {lo n : Nat} {w : World} {v : Value} (h : OrdV lo n w v) : ∃ a c, v = .slice a n c := by
 obtain ⟨is, h1, h2, _⟩ := h
 rcases rows_at h1 with ⟨rfl, e⟩ | ⟨g, off, cap, rfl, _⟩
 ·have : is.length = 0 := by simpa using e
  rw [← h2, this]; exact ⟨none, 0, rfl⟩
 ·rw [List.length_map, h2]; exact ⟨_, _, rfl⟩
theorem OrdV.below {lo n : Nat} {w w' : World} {v : Value} (h : OrdV lo n w v) (hb : Below w.heap.size w w') : OrdV lo n w' v := by
 obtain ⟨is, h1, h2, h3⟩ := h; exact ⟨is, h1.below hb, h2, h3⟩
theorem OrdV.other {lo n B : Nat} {w w' : World} {v : Value} (h : OrdV lo n w v) (hb : w.grownBy w' (some B)) (hB : B < lo) : OrdV lo n w' v := by
 obtain ⟨is, h1, h2, h3⟩ := h; exact ⟨is, h1.other hb hB, h2, h3⟩
/-- One of the numbers. -/
theorem OrdV.at {lo n c i : Nat} {w : World} {a : Option Addr} (h : OrdV lo n w (.slice a n c)) (hi : i < n) : ∃ g off x : Nat, a = some ⟨g, off, none⟩ ∧ lo ≤ g ∧ g < w.heap.size ∧ x < n ∧ w.cell? ⟨g, off + i, none⟩ = some (.int .i64 (x : Int)) := by
 obtain ⟨is, h1, h2, h3⟩ := h
 rcases rows_at h1 with ⟨_, e⟩ | ⟨g, off, cap, e, hl, hg, hc⟩
 ·have : is.length = 0 := by simpa using e
  omega
 ·simp only [Value.slice.injEq] at e
  obtain ⟨x, hx⟩ : ∃ x, is[i]? = some x := ⟨_, List.getElem?_eq_getElem (by omega)⟩
  have := hc i 0 (.int .i64 (x : Int)) (by simp [hx, inRow])
  exact ⟨g, off, x, e.1, hl, hg, h3 x (List.mem_of_getElem? hx), by simpa using this⟩
def o42_11 : Array Go.Oper := #[
 ⟨some 28, .move (.tmp 5), 22, "stream.go:55", #[], none⟩,
 ⟨some 29, .move (.tmp 7), 3, "stream.go:55", #[], none⟩,
 ⟨some 30, .move (.tmp 5), 22, "stream.go:55", #[⟨13, .gcOnly .lateStores⟩], none⟩,
 ⟨some 31, .move (.tmp 8), 3, "stream.go:55", #[⟨13, .gcOnly .lateStores⟩], none⟩,
 ⟨some 32, .move (.tmp 5), 22, "stream.go:55", #[], none⟩,
 ⟨some 33, .move (.tmp 8), 3, "stream.go:55", #[], none⟩,
 ⟨some 34, .indexAddr 22 (.tmp 32) (.tmp 33), 0, "stream.go:55", #[⟨4, .data⟩, ⟨5, .data⟩], none⟩,
 ⟨some 35, .load 3 (.tmp 34), 3, "stream.go:55", #[⟨6, .data⟩], none⟩,
 ⟨some 36, .move (.tmp 5), 22, "stream.go:55", #[], none⟩,
 ⟨some 37, .move (.tmp 7), 3, "stream.go:55", #[], none⟩,
 ⟨some 38, .indexAddr 22 (.tmp 36) (.tmp 37), 0, "stream.go:55", #[⟨8, .data⟩, ⟨9, .data⟩], none⟩,
 ⟨some 39, .load 3 (.tmp 38), 3, "stream.go:55", #[⟨10, .data⟩], none⟩,
 ⟨some 40, .indexAddr 22 (.tmp 28) (.tmp 29), 0, "stream.go:55", #[⟨0, .data⟩, ⟨1, .data⟩, ⟨0, .phase⟩, ⟨1, .phase⟩, ⟨2, .textOnly .lateStores⟩, ⟨3, .textOnly .lateStores⟩, ⟨4, .phase⟩, ⟨5, .phase⟩, ⟨6, .phase⟩, ⟨7, .phase⟩, ⟨8, .textOnly .lateStores⟩, ⟨9, .textOnly .lateStores⟩, ⟨10, .textOnly .lateStoresUnsure⟩, ⟨11, .phase⟩], none⟩,
 ⟨none, .store 3 (.tmp 40) (.tmp 35), 0, "stream.go:55", #[⟨12, .data⟩, ⟨7, .data⟩, ⟨0, .phase⟩, ⟨1, .phase⟩, ⟨2, .textOnly .lateStores⟩, ⟨3, .textOnly .lateStores⟩, ⟨4, .phase⟩, ⟨5, .phase⟩, ⟨6, .phase⟩, ⟨7, .phase⟩, ⟨8, .textOnly .lateStores⟩, ⟨9, .textOnly .lateStores⟩, ⟨10, .textOnly .lateStoresUnsure⟩, ⟨11, .phase⟩], none⟩,
 ⟨some 41, .indexAddr 22 (.tmp 30) (.tmp 31), 0, "stream.go:55", #[⟨2, .data⟩, ⟨3, .data⟩, ⟨0, .phase⟩, ⟨1, .phase⟩, ⟨2, .phase⟩, ⟨3, .phase⟩, ⟨4, .phase⟩, ⟨5, .phase⟩, ⟨6, .phase⟩, ⟨7, .phase⟩, ⟨8, .phase⟩, ⟨9, .phase⟩, ⟨10, .phase⟩, ⟨11, .phase⟩, ⟨12, .phase⟩, ⟨13, .phase⟩], none⟩,
 ⟨none, .store 3 (.tmp 41) (.tmp 39), 0, "stream.go:55", #[⟨14, .data⟩, ⟨11, .data⟩, ⟨13, .chain⟩, ⟨0, .phase⟩, ⟨1, .phase⟩, ⟨2, .phase⟩, ⟨3, .phase⟩, ⟨4, .phase⟩, ⟨5, .phase⟩, ⟨6, .phase⟩, ⟨7, .phase⟩, ⟨8, .phase⟩, ⟨9, .phase⟩, ⟨10, .phase⟩, ⟨11, .phase⟩, ⟨12, .phase⟩, ⟨13, .phase⟩], none⟩]
theorem o42_11_0 : o42_11[0]? = some (⟨some 28, .move (.tmp 5), 22, "stream.go:55", #[], none⟩ : Go.Oper) := rfl
theorem o42_11_1 : o42_11[1]? = some (⟨some 29, .move (.tmp 7), 3, "stream.go:55", #[], none⟩ : Go.Oper) := rfl
theorem o42_11_2 : o42_11[2]? = some (⟨some 30, .move (.tmp 5), 22, "stream.go:55", #[⟨13, .gcOnly .lateStores⟩], none⟩ : Go.Oper) := rfl
theorem o42_11_3 : o42_11[3]? = some (⟨some 31, .move (.tmp 8), 3, "stream.go:55", #[⟨13, .gcOnly .lateStores⟩], none⟩ : Go.Oper) := rfl
theorem o42_11_4 : o42_11[4]? = some (⟨some 32, .move (.tmp 5), 22, "stream.go:55", #[], none⟩ : Go.Oper) := rfl
theorem o42_11_5 : o42_11[5]? = some (⟨some 33, .move (.tmp 8), 3, "stream.go:55", #[], none⟩ : Go.Oper) := rfl
theorem o42_11_6 : o42_11[6]? = some (⟨some 34, .indexAddr 22 (.tmp 32) (.tmp 33), 0, "stream.go:55", #[⟨4, .data⟩, ⟨5, .data⟩], none⟩ : Go.Oper) := rfl
theorem o42_11_7 : o42_11[7]? = some (⟨some 35, .load 3 (.tmp 34), 3, "stream.go:55", #[⟨6, .data⟩], none⟩ : Go.Oper) := rfl
theorem o42_11_8 : o42_11[8]? = some (⟨some 36, .move (.tmp 5), 22, "stream.go:55", #[], none⟩ : Go.Oper) := rfl
theorem o42_11_9 : o42_11[9]? = some (⟨some 37, .move (.tmp 7), 3, "stream.go:55", #[], none⟩ : Go.Oper) := rfl
theorem o42_11_10 : o42_11[10]? = some (⟨some 38, .indexAddr 22 (.tmp 36) (.tmp 37), 0, "stream.go:55", #[⟨8, .data⟩, ⟨9, .data⟩], none⟩ : Go.Oper) := rfl
theorem o42_11_11 : o42_11[11]? = some (⟨some 39, .load 3 (.tmp 38), 3, "stream.go:55", #[⟨10, .data⟩], none⟩ : Go.Oper) := rfl
theorem o42_11_12 : o42_11[12]? = some (⟨some 40, .indexAddr 22 (.tmp 28) (.tmp 29), 0, "stream.go:55", #[⟨0, .data⟩, ⟨1, .data⟩, ⟨0, .phase⟩, ⟨1, .phase⟩, ⟨2, .textOnly .lateStores⟩, ⟨3, .textOnly .lateStores⟩, ⟨4, .phase⟩, ⟨5, .phase⟩, ⟨6, .phase⟩, ⟨7, .phase⟩, ⟨8, .textOnly .lateStores⟩, ⟨9, .textOnly .lateStores⟩, ⟨10, .textOnly .lateStoresUnsure⟩, ⟨11, .phase⟩], none⟩ : Go.Oper) := rfl
theorem o42_11_13 : o42_11[13]? = some (⟨none, .store 3 (.tmp 40) (.tmp 35), 0, "stream.go:55", #[⟨12, .data⟩, ⟨7, .data⟩, ⟨0, .phase⟩, ⟨1, .phase⟩, ⟨2, .textOnly .lateStores⟩, ⟨3, .textOnly .lateStores⟩, ⟨4, .phase⟩, ⟨5, .phase⟩, ⟨6, .phase⟩, ⟨7, .phase⟩, ⟨8, .textOnly .lateStores⟩, ⟨9, .textOnly .lateStores⟩, ⟨10, .textOnly .lateStoresUnsure⟩, ⟨11, .phase⟩], none⟩ : Go.Oper) := rfl
theorem o42_11_14 : o42_11[14]? = some (⟨some 41, .indexAddr 22 (.tmp 30) (.tmp 31), 0, "stream.go:55", #[⟨2, .data⟩, ⟨3, .data⟩, ⟨0, .phase⟩, ⟨1, .phase⟩, ⟨2, .phase⟩, ⟨3, .phase⟩, ⟨4, .phase⟩, ⟨5, .phase⟩, ⟨6, .phase⟩, ⟨7, .phase⟩, ⟨8, .phase⟩, ⟨9, .phase⟩, ⟨10, .phase⟩, ⟨11, .phase⟩, ⟨12, .phase⟩, ⟨13, .phase⟩], none⟩ : Go.Oper) := rfl
theorem o42_11_15 : o42_11[15]? = some (⟨none, .store 3 (.tmp 41) (.tmp 39), 0, "stream.go:55", #[⟨14, .data⟩, ⟨11, .data⟩, ⟨13, .chain⟩, ⟨0, .phase⟩, ⟨1, .phase⟩, ⟨2, .phase⟩, ⟨3, .phase⟩, ⟨4, .phase⟩, ⟨5, .phase⟩, ⟨6, .phase⟩, ⟨7, .phase⟩, ⟨8, .phase⟩, ⟨9, .phase⟩, ⟨10, .phase⟩, ⟨11, .phase⟩, ⟨12, .phase⟩, ⟨13, .phase⟩], none⟩ : Go.Oper) := rfl
set_option maxHeartbeats 1000000 in
theorem order0_calls (B N : Nat) (w : World) (hs : St w B N) :
  Calls Tryz.prog 42 #[.pointer (some ⟨B, 0, none⟩), .int .i64 0] w (Made B N (OrdV w.heap.size 0) w) := by
 go_enter Tryz.func42, Tryz.ntmps42
 go_wp2_with fail
 refine wp_loop_rounds 1 ?_
 rw [rounds_succ]
 go_wp2_with fail
 refine wp_loop_rounds 1 ?_
 rw [rounds_succ]
 go_wp2_with fail
 go_ret
 exact ⟨_, ⟨[], ⟨by simp, by simp, .inl ⟨rfl, rfl⟩⟩, rfl, by simp⟩, rfl, hs, gb_refl _ _⟩
set_option maxRecDepth 100000 in
set_option maxHeartbeats 8000000 in
theorem order_calls (B N n : Nat) (w : World) (hs : St w B N) (hN : N + n ≤ 3990000) (hn : n ≤ 1000) :
  Calls Tryz.prog 42 #[.pointer (some ⟨B, 0, none⟩), .int .i64 (n : Int)] w (Made B (N + n) (OrdV w.heap.size n) w) := by
 by_cases hz : n = 0
 ·subst hz
  exact order0_calls B N w hs
 obtain ⟨i0, hi, hz0, hz1, hz2⟩ := info_parts info_int
 have hBw := hs.lt
 have hpos : 1 ≤ n := by omega
 clear hz
 go_enter Tryz.func42, Tryz.ntmps42
 go_wp2_with fail
 go_loopw [5, 10] (fun out i wr => ∃ k : Nat, k ≤ n ∧ i = .int .i64 k ∧ wr.ownsRow w.heap.size 3 1 out k ((List.range k).map fun (j : Nat) => .int .i64 (j : Int)) ∧ Below w.heap.size w wr) (fun _ i _ => n - (intOf i).toNat)
 case atStart => exact ⟨0, Nat.zero_le _, rfl, World.ownsRow_nil _ _ _ _, Below.refl _ _⟩
 case round =>
  obtain ⟨k, hk, rfl, hown, hb⟩ := hrel; by_cases hlt : k < n
  ·have hlt' : (k : Int) < (n : Int) := by omega
   go_wp2_with (at_builtin; refine wpList_append_own _ rfl _ _ 22 rfl w.heap.size 3 i0 (.int .i64 0) 1 8 Tryz.underlying22 hi hz0 hz1 hz2 rfl (by decide) _ _ _ rfl (hown.alloc _) ⟨wr.heap.size, 0, none⟩ 1 1 [.int .i64 (k : Int)] rfl rfl ?c1 ?c2 ?c3 ?c4 ?c5 ?_)
   case c1 => exact cells_new _ _ _
   case c2 => simp [Value.oneCell']
   case c3 => unfold maxLen; omega
   case c4 => have := hb.size; omega
   case c5 => have := hb.size; simp; omega
   intro v' w4 hown4 hgrow _; go_wp2_with fail
   go_roundw
   case rel =>
    refine ⟨k + 1, by omega, by go_num, by rw [List.range_succ, List.map_append]; simpa using hown4, (below_step hb (below_alloc wr (.cells #[.int .i64 (k : Int)] 3))).grown hgrow (by simp; have := hb.size; omega) fun r hr => (own_block hown r hr).1⟩
   case measure => simp [intOf]; omega
  ·obtain rfl : k = n := by omega
   have hsr := hs.below hb; rcases hown.2 with ⟨rfl, h0⟩ | ⟨g, cap, cur, rfl, hgb, hgc, hle, _⟩
   ·exact absurd h0 (by omega)
   obtain ⟨hat, _⟩ := RowsAt.of_owns (sz := 1) (rows := (List.range k).map inRow) (by
    have e : ((List.range k).map inRow).flatten = (List.range k).map fun (j : Nat) => Value.int .i64 (j : Int) := flatten_single (fun j : Nat => Value.int .i64 (j : Int)) _
    rw [e]; simpa using hown) (by simp [inRow])
   have hX0 : OrS w B g k N wr := ⟨List.range k, by simp, fun x hx => List.mem_range.1 hx, hat, hsr, gb_below hb _⟩
   have hne : g ≠ B := by omega
   clear hat hgc hown hsr hb hi hz0 hz1 hz2 hlt hk hs; go_wp2_with fail
   go_loopw [7] (fun i wx => ∃ j : Nat, j < k ∧ i = .int .i64 j ∧ OrS w B g k (N + (k - 1 - j)) wx) (fun i _ => (intOf i).toNat)
   case atStart => exact ⟨k - 1, by omega, by congr 1; omega, hX0.mono (by omega)⟩
   case round =>
    clear hX0; obtain ⟨j, hj, rfl, hX⟩ := hrel; by_cases hj0 : 0 < j
    ·have hj0' : (0 : Int) < (j : Int) := by omega
     go_wp2_with fail
     refine (next_calls B _ ((j : Int) + 1) _ hX.st (by omega) (by omega) (by omega)).mono ?_
     rintro e w4 ⟨v, ⟨q, rfl, hq⟩, rfl, hs4, hg4⟩; replace hX := hX.step hs4 hg4 hne; clear hs4 hg4; have hq' : q < k := by omega
     go_upto_region 11 with fail
     replace hX := hX.drew; obtain ⟨x, hx, cx⟩ := hX.cell hj; obtain ⟨y, hy, cy⟩ := hX.cell hq'; have hjl : (j : Int) < (k : Int) := by omega
     have hql : (q : Int) < (k : Int) := by omega
     have hC : w4.drew.cell? ⟨g, j, none⟩ = some (.int .i64 (x : Int)) ∧ w4.drew.cell? ⟨g, q, none⟩ = some (.int .i64 (y : Int)) := ⟨cx, cy⟩
     clear cx cy; show Code.wp _ (Code.region 11 o42_11 true) _ _ _
     refine regionC_start 16 (fun w' => w'.cell? ⟨g, j, none⟩ = some (.int .i64 (x : Int)) ∧ w'.cell? ⟨g, q, none⟩ = some (.int .i64 (y : Int))) (fun j => [7, 11].contains j) (by kernel_rfl) rfl ?_
     generalize w4.drew = W4 at hX hC ⊢
     ·skip
      refine takeC 0 28 (v := ?_) o42_11_0 rfl (by kernel_rfl) (by kernel_rfl) (by kernel_rfl) (by rfl) (fun _ _ _ h => h) (by rfl) ?y0_1 ?_
      case y0_1 => intro w; go_simp; try with_reducible rfl
      simp only [sE0, sE1]; refine takeC 1 29 (v := ?_) o42_11_1 rfl (by kernel_rfl) (by kernel_rfl) (by kernel_rfl) (by rfl) (fun _ _ _ h => h) (by rfl) ?y1_2 ?_
      case y1_2 => intro w; go_simp; try with_reducible rfl
      simp only [sE0, sE1]; refine takeC 2 30 (v := ?_) o42_11_2 rfl (by kernel_rfl) (by kernel_rfl) (by kernel_rfl) (by rfl) (fun _ _ _ h => h) (by rfl) ?y2_3 ?_
      case y2_3 => intro w; go_simp; try with_reducible rfl
      simp only [sE0, sE1]; refine takeC 3 31 (v := ?_) o42_11_3 rfl (by kernel_rfl) (by kernel_rfl) (by kernel_rfl) (by rfl) (fun _ _ _ h => h) (by rfl) ?y3_4 ?_
      case y3_4 => intro w; go_simp; try with_reducible rfl
      simp only [sE0, sE1]; refine takeC 4 32 (v := ?_) o42_11_4 rfl (by kernel_rfl) (by kernel_rfl) (by kernel_rfl) (by rfl) (fun _ _ _ h => h) (by rfl) ?y4_5 ?_
      case y4_5 => intro w; go_simp; try with_reducible rfl
      simp only [sE0, sE1]; refine takeC 5 33 (v := ?_) o42_11_5 rfl (by kernel_rfl) (by kernel_rfl) (by kernel_rfl) (by rfl) (fun _ _ _ h => h) (by rfl) ?y5_6 ?_
      case y5_6 => intro w; go_simp; try with_reducible rfl
      simp only [sE0, sE1]; refine takeC 6 34 (v := ?_) o42_11_6 rfl (by kernel_rfl) (by kernel_rfl) (by kernel_rfl) (by rfl) (fun _ _ _ h => h) (by rfl) ?y6_7 ?_
      case y6_7 => intro w; go_simp; try with_reducible rfl
      simp only [sE0, sE1]; refine takeC 8 36 (v := ?_) o42_11_8 rfl (by kernel_rfl) (by kernel_rfl) (by kernel_rfl) (by rfl) (fun _ _ _ h => h) (by rfl) ?y8_8 ?_
      case y8_8 => intro w; go_simp; try with_reducible rfl
      simp only [sE0, sE1]; refine takeC 9 37 (v := ?_) o42_11_9 rfl (by kernel_rfl) (by kernel_rfl) (by kernel_rfl) (by rfl) (fun _ _ _ h => h) (by rfl) ?y9_9 ?_
      case y9_9 => intro w; go_simp; try with_reducible rfl
      simp only [sE0, sE1]; refine takeC 10 38 (v := ?_) o42_11_10 rfl (by kernel_rfl) (by kernel_rfl) (by kernel_rfl) (by rfl) (fun _ _ _ h => h) (by rfl) ?y10_10 ?_
      case y10_10 => intro w; go_simp; try with_reducible rfl
      simp only [sE0, sE1]; refine loadC 7 35 (v := ?_) o42_11_7 rfl (by kernel_rfl) (by kernel_rfl) (by kernel_rfl) (by kernel_rfl) (fun _ _ _ h => h) (by rfl) ?y7_11 (by exact hC) ?_
      case y7_11 => intro w h; (try dsimp only at h); go_simp; try with_reducible rfl
      simp only [sE0, sE1]; refine loadC 11 39 (v := ?_) o42_11_11 rfl (by kernel_rfl) (by kernel_rfl) (by kernel_rfl) (by kernel_rfl) (fun _ _ _ h => h) (by rfl) ?y11_12 (by exact hC) ?_
      case y11_12 => intro w h; (try dsimp only at h); go_simp; try with_reducible rfl
      simp only [sE0, sE1]; refine takeC 12 40 (v := ?_) o42_11_12 rfl (by kernel_rfl) (by kernel_rfl) (by kernel_rfl) (by rfl) (fun _ _ _ h => h) (by rfl) ?y12_13 ?_
      case y12_13 => intro w; go_simp; try with_reducible rfl
      simp only [sE0, sE1]; refine readyC (rs := [13]) (by kernel_rfl) (by simp) (each_cons (runC o42_11_13 (by rfl) (fun K hK => ?_)) each_nil)
      have f1 := hX.free j; obtain ⟨z1, -, q1⟩ := hX.cell hj; go_simp; replace hX := hX.put hBw hgb hj hy; clear f1 q1; refine hK.out _ _ (fun h => absurd h (by decide)) ?_
      clear hK K; try simp only [sEt, sE0, sE1]
      refine takeC 14 41 (v := ?_) o42_11_14 rfl (by kernel_rfl) (by kernel_rfl) (by kernel_rfl) (by rfl) (fun _ _ _ h => h) (by rfl) ?y14_14 ?_
      case y14_14 => intro w; go_simp; try with_reducible rfl
      simp only [sE0, sE1]; refine readyC (rs := [15]) (by kernel_rfl) (by simp) (each_cons (runC o42_11_15 (by rfl) (fun K hK => ?_)) each_nil)
      have f2 := hX.free q; obtain ⟨z2, -, q2⟩ := hX.cell hq'; go_simp; replace hX := hX.put hBw hgb hq' hx; clear f2 q2; refine hK.out _ _ (fun h => absurd h (by decide)) ?_
      clear hK K; try simp only [sEt, sE0, sE1]
      refine doneC (by kernel_rfl) ?_ _
      go_wp2_with fail
      go_roundw
      case rel => exact ⟨j - 1, by omega, by congr 1; omega, hX.mono (by omega)⟩
      case measure => simp [intOf]; omega
    ·obtain rfl : j = 0 := by omega
     go_wp2_with fail
     go_ret
     exact ⟨_, hX.made hn hle hgb, rfl, hX.st.mono (by omega), hX.gb⟩
end Go.Proofs.YtfcaokpadodijaaGreat
/- Numbers put in order by a comparing function: slices.SortFunc at few ints. -/
namespace Go.Proofs.YtfcaokpadodijaaGreat
open Go.RowKit

def natAt (l : List Nat) (i : Nat) : Nat := l[i]?.getD 0
theorem natAt_some {l : List Nat} {i x : Nat} (h : l[i]? = some x) : natAt l i = x := by unfold natAt; rw [h]; rfl
/-- A number sinks as long as it comes before the one ahead. -/
def sinkN (f : Nat → Nat → Int) : List Nat → Nat → List Nat
 | l, 0 => l
 | l, j + 1 => if f (natAt l (j + 1)) (natAt l j) < 0 then sinkN f ((l.set (j + 1) (natAt l j)).set j (natAt l (j + 1))) j else l
def insN (f : Nat → Nat → Int) (ks : List Nat) : Nat → List Nat
 | 0 => ks
 | i + 1 => sinkN f (insN f ks i) i
def sortN (f : Nat → Nat → Int) (ks : List Nat) : List Nat := insN f ks ks.length
theorem sinkN_perm {f : Nat → Nat → Int} : ∀ (j : Nat) (l : List Nat), j < l.length → (sinkN f l j).Perm l
 | 0, l, _ => List.Perm.refl l
 | j + 1, l, h => by
  unfold sinkN; split
  ·have h1 : natAt l j = l[j] := natAt_some (List.getElem?_eq_getElem (by omega))
   have h2 : natAt l (j + 1) = l[j + 1] := natAt_some (List.getElem?_eq_getElem h)
   refine (sinkN_perm j _ (by simp; omega)).trans ?_
   rw [h1, h2]; exact List.set_set_perm h (by omega)
  ·exact List.Perm.refl l
theorem insN_perm {f : Nat → Nat → Int} (ks : List Nat) : ∀ i, i ≤ ks.length → (insN f ks i).Perm ks
 | 0, _ => List.Perm.refl ks
 | i + 1, h => by
  unfold insN; have ih := insN_perm (f := f) ks i (by omega)
  exact (sinkN_perm i _ (by rw [ih.length_eq]; omega)).trans ih
theorem sortN_perm {f : Nat → Nat → Int} (ks : List Nat) : (sortN f ks).Perm ks := insN_perm ks _ (Nat.le_refl _)
/-- In order up to K. -/
def UpTo (f : Nat → Nat → Int) (l : List Nat) (K : Nat) : Prop := ∀ a b, a < b → b < K → f (natAt l a) (natAt l b) ≤ 0
theorem natAt_set (l : List Nat) (i j x : Nat) (hi : i < l.length) : natAt (l.set i x) j = if j = i then x else natAt l j := by
 unfold natAt
 rw [List.getElem?_set]
 by_cases h : i = j
 ·subst h; simp [hi]
 ·rw [if_neg h, if_neg (Ne.symm h)]
theorem sinkN_sorted {f : Nat → Nat → Int} (ht : ∀ a b, ¬ f a b < 0 → f b a ≤ 0) (htr : ∀ a b c, f a b ≤ 0 → f b c ≤ 0 → f a c ≤ 0) (K : Nat) : ∀ (j : Nat) (l : List Nat), j < K → K ≤ l.length → (∀ a b, a < b → b < K → a ≠ j → b ≠ j → f (natAt l a) (natAt l b) ≤ 0) → (∀ b, j < b → b < K → f (natAt l j) (natAt l b) ≤ 0) → UpTo f (sinkN f l j) K
 | 0, l, hj, hK, h1, h2 => fun a b hab hb => by
  show f (natAt l a) (natAt l b) ≤ 0
  by_cases ha : a = 0
  ·subst ha; exact h2 b hab hb
  ·exact h1 a b hab hb ha (by omega)
 | j + 1, l, hj, hK, h1, h2 => by
  unfold sinkN; split
  ·rename_i hlt
   have e : ∀ x, natAt ((l.set (j + 1) (natAt l j)).set j (natAt l (j + 1))) x = if x = j then natAt l (j + 1) else if x = j + 1 then natAt l j else natAt l x := fun x => by
    rw [natAt_set _ _ _ _ (by simp; omega), natAt_set _ _ _ _ (by omega)]
   refine sinkN_sorted ht htr K j _ (by omega) (by simpa using hK) (fun a b hab hb ha hb' => ?_) (fun b hjb hb => ?_)
   ·rw [e, e, if_neg ha, if_neg hb']
    by_cases a1 : a = j + 1
    ·rw [if_pos a1, if_neg (by omega)]
     exact h1 j b (by omega) hb (by omega) (by omega)
    ·rw [if_neg a1]
     by_cases b1 : b = j + 1
     ·rw [if_pos b1]
      exact h1 a j (by omega) (by omega) (by omega) (by omega)
     ·rw [if_neg b1]
      exact h1 a b hab hb a1 b1
   ·rw [e, e, if_pos rfl, if_neg (by omega)]
    by_cases b1 : b = j + 1
    ·rw [if_pos b1]; omega
    ·rw [if_neg b1]; exact h2 b (by omega) hb
  ·rename_i hge
   intro a b hab hb; by_cases a1 : a = j + 1
   ·subst a1; exact h2 b hab hb
   ·by_cases b1 : b = j + 1
    ·subst b1
     have hl := ht _ _ hge; by_cases aj : a = j
     ·subst aj; exact hl
     ·exact htr _ _ _ (h1 a j (by omega) (by omega) (by omega) (by omega)) hl
    ·exact h1 a b hab hb a1 b1
theorem insN_sorted {f : Nat → Nat → Int} (ht : ∀ a b, ¬ f a b < 0 → f b a ≤ 0) (htr : ∀ a b c, f a b ≤ 0 → f b c ≤ 0 → f a c ≤ 0) (ks : List Nat) : ∀ i, i ≤ ks.length → UpTo f (insN f ks i) i
 | 0, _ => fun a b _ hb => by omega
 | i + 1, h => by
  have ih := insN_sorted ht htr ks i (by omega)
  have hl := (insN_perm (f := f) ks i (by omega)).length_eq
  unfold insN; exact sinkN_sorted ht htr (i + 1) i _ (by omega) (by omega) (fun a b hab hb _ hb' => ih a b hab (by omega)) (fun b _ _ => by omega)
theorem sortN_sorted {f : Nat → Nat → Int} (ht : ∀ a b, ¬ f a b < 0 → f b a ≤ 0) (htr : ∀ a b c, f a b ≤ 0 → f b c ≤ 0 → f a c ≤ 0) (ks : List Nat) : (sortN f ks).Pairwise fun a b => f a b ≤ 0 := by
 rw [List.pairwise_iff_getElem]
 intro i j hi hj hij
 have hl := (sortN_perm (f := f) ks).length_eq
 have := insN_sorted ht htr ks ks.length (Nat.le_refl _) i j hij (by omega)
 have e : ∀ i (h : i < (sortN f ks).length), natAt (insN f ks ks.length) i = (sortN f ks)[i] := fun i h => natAt_some (List.getElem?_eq_getElem h)
 rwa [e i hi, e j hj] at this
theorem n_cell {w : World} {g off i : Nat} {ks : List Nat} {k : Nat} (h : RowsAt w 3 g off 1 (ks.map inRow)) (hk : ks[i]? = some k) : w.cell? ⟨g, off + i, none⟩ = some (.int .i64 (k : Int)) := by
 have hr : (ks.map inRow)[i]? = some (inRow k) := by simp [hk]
 have := h.cell hr (j := 0) rfl
 simpa using this
theorem n_set {w : World} {g off i : Nat} {ks : List Nat} {k0 : Nat} (h : RowsAt w 3 g off 1 (ks.map inRow)) (hk : ks[i]? = some k0) (k : Nat) : RowsAt (w.setCell ⟨g, off + i, none⟩ (.int .i64 (k : Int))) 3 g off 1 ((ks.set i k).map inRow) := by
 have := h.set (i := i) (f := 0) (row := inRow k0) (by simp [hk]) (by decide) (.int .i64 (k : Int))
 rw [List.map_set]
 simpa [inRow] using this
theorem RowsAt.drewN {w : World} {T g off sz : Nat} {rows : List (List Value)} (h : RowsAt w T g off sz rows) : RowsAt w.drew T g off sz rows := h
theorem gb_drewN' {w w' : World} {row : Option Nat} (h : w.grownBy w' row) : w.grownBy w'.drew row := ⟨h.os, h.tape, h.output, h.size, h.block⟩
def SortedN (f : Nat → Nat → Int) (g off : Nat) (ks : List Nat) (w : World) (e : Ending) (w' : World) : Prop := e = .returned (.tuple #[]) ∧ RowsAt w' 3 g off 1 ((sortN f ks).map inRow) ∧ w.grownBy w' (some g)
def o152_4 : Array Go.Oper := #[
 ⟨some 18, .move (.tmp 9), 3, "zsortanyfunc.go:12", #[], none⟩,
 ⟨some 19, .move (.tmp 1), 3, "zsortanyfunc.go:12", #[], none⟩,
 ⟨some 20, .binOp .gtr 3 (.tmp 18) (.tmp 19) 3, 4, "zsortanyfunc.go:12", #[⟨0, .data⟩, ⟨1, .data⟩], none⟩,
 ⟨some 21, .move (.tmp 20), 4, "zsortanyfunc.go:12", #[⟨2, .data⟩], none⟩,
 ⟨some 22, .move (.tmp 3), 126, "zsortanyfunc.go:12", #[⟨3, .guard⟩], some (3, true)⟩,
 ⟨some 23, .move (.tmp 0), 22, "zsortanyfunc.go:12", #[⟨3, .guard⟩], some (3, true)⟩,
 ⟨some 24, .move (.tmp 9), 3, "zsortanyfunc.go:12", #[⟨3, .guard⟩], some (3, true)⟩,
 ⟨some 25, .indexAddr 22 (.tmp 23) (.tmp 24), 0, "zsortanyfunc.go:12", #[⟨5, .data⟩, ⟨6, .data⟩, ⟨3, .guard⟩], some (3, true)⟩,
 ⟨some 26, .load 3 (.tmp 25), 3, "zsortanyfunc.go:12", #[⟨7, .data⟩, ⟨3, .guard⟩], some (3, true)⟩,
 ⟨some 27, .move (.tmp 0), 22, "zsortanyfunc.go:12", #[⟨3, .guard⟩], some (3, true)⟩,
 ⟨some 28, .move (.tmp 9), 3, "zsortanyfunc.go:12", #[⟨3, .guard⟩], some (3, true)⟩,
 ⟨some 29, .binOp .sub 3 (.tmp 28) (.const (.int .i64 1)) 3, 3, "zsortanyfunc.go:12", #[⟨10, .data⟩, ⟨3, .guard⟩], some (3, true)⟩,
 ⟨some 30, .indexAddr 22 (.tmp 27) (.tmp 29), 0, "zsortanyfunc.go:12", #[⟨9, .data⟩, ⟨11, .data⟩, ⟨3, .guard⟩], some (3, true)⟩,
 ⟨some 31, .load 3 (.tmp 30), 3, "zsortanyfunc.go:12", #[⟨12, .data⟩, ⟨3, .guard⟩], some (3, true)⟩,
 ⟨some 32, .call { callee := .value (.tmp 22), args := #[.tmp 26, .tmp 31], argTypes := #[3, 3] }, 3, "zsortanyfunc.go:12", #[⟨4, .data⟩, ⟨8, .data⟩, ⟨13, .data⟩, ⟨3, .chain⟩, ⟨3, .guard⟩], some (3, true)⟩,
 ⟨some 33, .binOp .lss 3 (.tmp 32) (.const (.int .i64 0)) 3, 4, "zsortanyfunc.go:12", #[⟨14, .data⟩, ⟨3, .guard⟩], some (3, true)⟩,
 ⟨some 34, .pick (.tmp 21) (.tmp 33) (.const (.bool false)), 4, "zsortanyfunc.go:12", #[⟨3, .data⟩, ⟨15, .data⟩], none⟩]
theorem o152_4_0 : o152_4[0]? = some (⟨some 18, .move (.tmp 9), 3, "zsortanyfunc.go:12", #[], none⟩ : Go.Oper) := rfl
theorem o152_4_1 : o152_4[1]? = some (⟨some 19, .move (.tmp 1), 3, "zsortanyfunc.go:12", #[], none⟩ : Go.Oper) := rfl
theorem o152_4_2 : o152_4[2]? = some (⟨some 20, .binOp .gtr 3 (.tmp 18) (.tmp 19) 3, 4, "zsortanyfunc.go:12", #[⟨0, .data⟩, ⟨1, .data⟩], none⟩ : Go.Oper) := rfl
theorem o152_4_3 : o152_4[3]? = some (⟨some 21, .move (.tmp 20), 4, "zsortanyfunc.go:12", #[⟨2, .data⟩], none⟩ : Go.Oper) := rfl
theorem o152_4_4 : o152_4[4]? = some (⟨some 22, .move (.tmp 3), 126, "zsortanyfunc.go:12", #[⟨3, .guard⟩], some (3, true)⟩ : Go.Oper) := rfl
theorem o152_4_5 : o152_4[5]? = some (⟨some 23, .move (.tmp 0), 22, "zsortanyfunc.go:12", #[⟨3, .guard⟩], some (3, true)⟩ : Go.Oper) := rfl
theorem o152_4_6 : o152_4[6]? = some (⟨some 24, .move (.tmp 9), 3, "zsortanyfunc.go:12", #[⟨3, .guard⟩], some (3, true)⟩ : Go.Oper) := rfl
theorem o152_4_7 : o152_4[7]? = some (⟨some 25, .indexAddr 22 (.tmp 23) (.tmp 24), 0, "zsortanyfunc.go:12", #[⟨5, .data⟩, ⟨6, .data⟩, ⟨3, .guard⟩], some (3, true)⟩ : Go.Oper) := rfl
theorem o152_4_8 : o152_4[8]? = some (⟨some 26, .load 3 (.tmp 25), 3, "zsortanyfunc.go:12", #[⟨7, .data⟩, ⟨3, .guard⟩], some (3, true)⟩ : Go.Oper) := rfl
theorem o152_4_9 : o152_4[9]? = some (⟨some 27, .move (.tmp 0), 22, "zsortanyfunc.go:12", #[⟨3, .guard⟩], some (3, true)⟩ : Go.Oper) := rfl
theorem o152_4_10 : o152_4[10]? = some (⟨some 28, .move (.tmp 9), 3, "zsortanyfunc.go:12", #[⟨3, .guard⟩], some (3, true)⟩ : Go.Oper) := rfl
theorem o152_4_11 : o152_4[11]? = some (⟨some 29, .binOp .sub 3 (.tmp 28) (.const (.int .i64 1)) 3, 3, "zsortanyfunc.go:12", #[⟨10, .data⟩, ⟨3, .guard⟩], some (3, true)⟩ : Go.Oper) := rfl
theorem o152_4_12 : o152_4[12]? = some (⟨some 30, .indexAddr 22 (.tmp 27) (.tmp 29), 0, "zsortanyfunc.go:12", #[⟨9, .data⟩, ⟨11, .data⟩, ⟨3, .guard⟩], some (3, true)⟩ : Go.Oper) := rfl
theorem o152_4_13 : o152_4[13]? = some (⟨some 31, .load 3 (.tmp 30), 3, "zsortanyfunc.go:12", #[⟨12, .data⟩, ⟨3, .guard⟩], some (3, true)⟩ : Go.Oper) := rfl
theorem o152_4_14 : o152_4[14]? = some (⟨some 32, .call { callee := .value (.tmp 22), args := #[.tmp 26, .tmp 31], argTypes := #[3, 3] }, 3, "zsortanyfunc.go:12", #[⟨4, .data⟩, ⟨8, .data⟩, ⟨13, .data⟩, ⟨3, .chain⟩, ⟨3, .guard⟩], some (3, true)⟩ : Go.Oper) := rfl
theorem o152_4_15 : o152_4[15]? = some (⟨some 33, .binOp .lss 3 (.tmp 32) (.const (.int .i64 0)) 3, 4, "zsortanyfunc.go:12", #[⟨14, .data⟩, ⟨3, .guard⟩], some (3, true)⟩ : Go.Oper) := rfl
theorem o152_4_16 : o152_4[16]? = some (⟨some 34, .pick (.tmp 21) (.tmp 33) (.const (.bool false)), 4, "zsortanyfunc.go:12", #[⟨3, .data⟩, ⟨15, .data⟩], none⟩ : Go.Oper) := rfl
set_option maxRecDepth 100000 in
set_option maxHeartbeats 4000000 in
theorem insN_calls (G : Nat) (caps : Array Value) (f : Nat → Nat → Int) (g off cap : Nat) (ks : List Nat) (w : World) (hv : RowsAt w 3 g off 1 (ks.map inRow)) (hn : ks.length ≤ 12) (h1 : 1 ≤ ks.length) (eg : ∀ args w, (callFunc G args).run Tryz.prog w = .ok (.enter G args) w)
  (hp : ∀ (W : World) (a b : Nat), a ∈ ks → b ∈ ks → w.grownBy W (some g) → Calls Tryz.prog G (#[.int .i64 (a : Int), .int .i64 (b : Int)] ++ caps) W (IntBelow (f a b) W)) :
  Calls Tryz.prog 152 #[.slice (some ⟨g, off, none⟩) ks.length cap, .int .i64 0, .int .i64 (ks.length : Int), .func (.func G) #[] caps] w (SortedN f g off ks w) := by
 have HE := Lib.hid (show sortN f ks = insN f ks ks.length from rfl)
 have HL := Lib.hid (fun k hk => (insN_perm (f := f) ks k hk))
 have Hp := Lib.hid hp
 unfold SortedN
 generalize sortN f ks = E at HE ⊢
 clear hp
 obtain ⟨n, hnn⟩ : ∃ n, ks.length = n := ⟨_, rfl⟩
 rw [hnn] at hn h1 HE HL ⊢
 have Hnn := Lib.hid hnn
 clear hnn
 go_enter Tryz.func152, Tryz.ntmps152
 go_wp2_with fail
 go_loopw [8] (fun i wr => ∃ (k : Nat), i = .int .i64 k ∧ 1 ≤ k ∧ k ≤ n ∧ RowsAt wr 3 g off 1 ((insN f ks k).map inRow) ∧ w.grownBy wr (some g)) (fun i _ => n - (intOf i).toNat)
 case atStart => exact ⟨1, rfl, by omega, by omega, hv, gb_refl _ _⟩
 case round =>
  obtain ⟨k, rfl, hk1, hk2, hr, hg⟩ := hrel; clear hv; by_cases hlt : k < n
  ·obtain ⟨wo, rfl⟩ : ∃ wo : World, wo = wr := ⟨_, rfl⟩
   have HX := Lib.hid (show insN f ks (k + 1) = sinkN f (insN f ks k) k from rfl)
   have hl0 := Lib.hid (HL.out k (by omega))
   go_wp2_with fail
   go_loopw [9] (fun j wr => ∃ (m : Nat) (l : List Nat), j = .int .i64 m ∧ m ≤ k ∧ Hid (sinkN f l m = insN f ks (k + 1)) ∧ Hid (l.Perm ks) ∧ RowsAt wr 3 g off 1 (l.map inRow) ∧ w.grownBy wr (some g)) (fun j _ => (intOf j).toNat)
   case atStart => exact ⟨k, insN f ks k, rfl, Nat.le_refl _, Lib.hid HX.out.symm, hl0, hr, hg⟩
   case round =>
    clear hr hg hl0; obtain ⟨m, l, rfl, hm, Hsk, Hpm, hr', hg'⟩ := hrel; by_cases hm0 : m = 0
    ·subst hm0
     have hl : l = insN f ks (k + 1) := Hsk.out
     subst hl; go_wp2_with fail
     go_quiet (fail)
     go_wp2_with fail
     go_roundw
     case rel => exact ⟨k + 1, by go_num, by omega, by omega, hr', gb_trans hg' (gb_drewN _ _ _)⟩
     case measure => simp [intOf]; omega
    ·have Hlen := Lib.hid (Hpm.out.length_eq.trans Hnn.out)
     obtain ⟨fm, hfm⟩ : ∃ f, l[m]? = some f := ⟨_, List.getElem?_eq_getElem (show m < l.length by have := Hlen.out; omega)⟩
     obtain ⟨fp, hfp⟩ : ∃ f, l[m - 1]? = some f := ⟨_, List.getElem?_eq_getElem (show m - 1 < l.length by have := Hlen.out; omega)⟩
     have a0 := n_cell hr' hfm; have b0 := n_cell hr' hfp; have hs1 := Lib.hid (Hpm.out.mem_iff.1 (List.mem_of_getElem? hfm)); have hs2 := Lib.hid (Hpm.out.mem_iff.1 (List.mem_of_getElem? hfp)); have Hfm := Lib.hid hfm; have Hfp := Lib.hid hfp
     have Hst := Lib.hid (show sinkN f l m = if f fm fp < 0 then sinkN f ((l.set m fp).set (m - 1) fm) (m - 1) else l by
      obtain ⟨m', rfl⟩ : ∃ m', m = m' + 1 := ⟨m - 1, by omega⟩
      rw [Nat.add_sub_cancel] at hfp ⊢
      rw [sinkN, natAt_some hfm, natAt_some hfp])
     have e0 : 0 < m := by omega
     have e0' : decide (0 < m) = true := decide_eq_true e0
     have w1 : IntKind.i64.wrap ((m : Int) - 1) = ((m - 1 : Nat) : Int) := by rw [IntWalk.i64_in _ (by omega)]; omega
     have w2 : ((m - 1 : Nat) : Int) < (n : Int) := by omega
     have w3 : (m : Int) < (n : Int) := by omega
     have CL := Lib.hid (fun W h => Hp.out W fm fp hs1.out hs2.out h)
     obtain ⟨x, hx0⟩ : ∃ x, f fm fp = x := ⟨_, rfl⟩
     rw [hx0] at CL
     have Hx0 := Lib.hid hx0; have hbc := (Below.refl wr.heap.size wr).drew; have hS0 : wr.drew.cell? ⟨g, off + m, none⟩ = some (.int .i64 (fm : Int)) ∧ wr.drew.cell? ⟨g, off + (m - 1), none⟩ = some (.int .i64 (fp : Int)) := ⟨a0, b0⟩
     clear hfm hfp a0 b0 hx0; go_upto_region 4 with fail
     show Code.wp _ (Code.region 4 o152_4 true) _ _ _
     refine regionC_start 17 (fun w' => w'.cell? ⟨g, off + m, none⟩ = some (.int .i64 (fm : Int)) ∧ w'.cell? ⟨g, off + (m - 1), none⟩ = some (.int .i64 (fp : Int))) (fun j => [8, 13].contains j) (by kernel_rfl) rfl ?_
     generalize wr.drew = W0 at hbc hS0 ⊢
     ·skip
      refine takeC 0 18 (v := ?_) o152_4_0 rfl (by kernel_rfl) (by kernel_rfl) (by kernel_rfl) (by rfl) (fun _ _ _ h => h) (by rfl) ?y0_1 ?_
      case y0_1 => intro w; go_simp; try with_reducible rfl
      simp only [sE0, sE1]; refine takeC 1 19 (v := ?_) o152_4_1 rfl (by kernel_rfl) (by kernel_rfl) (by kernel_rfl) (by rfl) (fun _ _ _ h => h) (by rfl) ?y1_2 ?_
      case y1_2 => intro w; go_simp; try with_reducible rfl
      simp only [sE0, sE1]; refine takeC 2 20 (v := ?_) o152_4_2 rfl (by kernel_rfl) (by kernel_rfl) (by kernel_rfl) (by rfl) (fun _ _ _ h => h) (by rfl) ?y2_3 ?_
      case y2_3 => intro w; go_simp; try with_reducible rfl
      simp only [sE0, sE1]; refine takeC 3 21 (v := ?_) o152_4_3 rfl (by kernel_rfl) (by kernel_rfl) (by kernel_rfl) (by rfl) (fun _ _ _ h => h) (by rfl) ?y3_4 ?_
      case y3_4 => intro w; go_simp; try with_reducible rfl
      simp only [sE0, sE1]; refine takeC 4 22 (v := ?_) o152_4_4 rfl (by kernel_rfl) (by kernel_rfl) (by kernel_rfl) (by rfl) (fun _ _ _ h => h) (by rfl) ?y4_5 ?_
      case y4_5 => intro w; go_simp; try with_reducible rfl
      simp only [sE0, sE1]; refine takeC 5 23 (v := ?_) o152_4_5 rfl (by kernel_rfl) (by kernel_rfl) (by kernel_rfl) (by rfl) (fun _ _ _ h => h) (by rfl) ?y5_6 ?_
      case y5_6 => intro w; go_simp; try with_reducible rfl
      simp only [sE0, sE1]; refine takeC 6 24 (v := ?_) o152_4_6 rfl (by kernel_rfl) (by kernel_rfl) (by kernel_rfl) (by rfl) (fun _ _ _ h => h) (by rfl) ?y6_7 ?_
      case y6_7 => intro w; go_simp; try with_reducible rfl
      simp only [sE0, sE1]; refine takeC 7 25 (v := ?_) o152_4_7 rfl (by kernel_rfl) (by kernel_rfl) (by kernel_rfl) (by rfl) (fun _ _ _ h => h) (by rfl) ?y7_8 ?_
      case y7_8 => intro w; go_simp; try with_reducible rfl
      simp only [sE0, sE1]; refine takeC 9 27 (v := ?_) o152_4_9 rfl (by kernel_rfl) (by kernel_rfl) (by kernel_rfl) (by rfl) (fun _ _ _ h => h) (by rfl) ?y9_9 ?_
      case y9_9 => intro w; go_simp; try with_reducible rfl
      simp only [sE0, sE1]; refine takeC 10 28 (v := ?_) o152_4_10 rfl (by kernel_rfl) (by kernel_rfl) (by kernel_rfl) (by rfl) (fun _ _ _ h => h) (by rfl) ?y10_10 ?_
      case y10_10 => intro w; go_simp; try with_reducible rfl
      simp only [sE0, sE1]; refine takeC 11 29 (v := ?_) o152_4_11 rfl (by kernel_rfl) (by kernel_rfl) (by kernel_rfl) (by rfl) (fun _ _ _ h => h) (by rfl) ?y11_11 ?_
      case y11_11 => intro w; go_simp; try with_reducible rfl
      simp only [sE0, sE1]; refine takeC 12 30 (v := ?_) o152_4_12 rfl (by kernel_rfl) (by kernel_rfl) (by kernel_rfl) (by rfl) (fun _ _ _ h => h) (by rfl) ?y12_12 ?_
      case y12_12 => intro w; go_simp; try with_reducible rfl
      simp only [sE0, sE1]; refine loadC 8 26 (v := ?_) o152_4_8 rfl (by kernel_rfl) (by kernel_rfl) (by kernel_rfl) (by kernel_rfl) (fun _ _ _ h => h) (by rfl) ?y8_13 (by exact hS0) ?_
      case y8_13 => intro w h; (try dsimp only at h); go_simp; try with_reducible rfl
      simp only [sE0, sE1]; refine loadC 13 31 (v := ?_) o152_4_13 rfl (by kernel_rfl) (by kernel_rfl) (by kernel_rfl) (by kernel_rfl) (fun _ _ _ h => h) (by rfl) ?y13_14 (by exact hS0) ?_
      case y13_14 => intro w h; (try dsimp only at h); go_simp; try with_reducible rfl
      simp only [sE0, sE1]; refine readyC (rs := [14]) (by kernel_rfl) (by simp) (each_cons (runC o152_4_14 (by rfl) (fun K hK => ?_)) each_nil)
      go_simp; refine (CL.out _ (gb_trans hg' (gb_below hbc _))).mono ?_; rintro e w' ⟨rfl, hb1⟩; replace hbc := below_step hbc hb1; clear hb1; go_wp2_with fail
      refine hK.out _ _ (fun h => absurd h (by decide)) ?_
      clear hK K; try simp only [Act.put, sEt, sE0, sE1]
      refine takeC 15 33 (v := ?_) o152_4_15 rfl (by kernel_rfl) (by kernel_rfl) (by kernel_rfl) (by rfl) (fun _ _ _ h => h) (by rfl) ?y15_15 ?_
      case y15_15 => intro w; go_simp; try with_reducible rfl
      simp only [sE0, sE1]; refine takeC 16 34 (v := ?_) o152_4_16 rfl (by kernel_rfl) (by kernel_rfl) (by kernel_rfl) (by rfl) (fun _ _ _ h => h) (by rfl) ?y16_16 ?_
      case y16_16 => intro w; go_simp; try with_reducible rfl
      simp only [sE0, sE1]; refine doneC (by kernel_rfl) ?_ _
      have hB := hbc; by_cases hx : x < 0
      ·have d1 : decide (x < 0) = true := decide_eq_true hx
       have hrB := hr'.below hB; have c0 := n_cell hrB Hfm.out; have d0 := n_cell hrB Hfp.out; have f0 := fun o => hrB.free o
       have f1 := fun o => hr'.free o
       have Hsk' := Lib.hid (show sinkN f ((l.set m fp).set (m - 1) fm) (m - 1) = insN f ks (k + 1) by
        have h := Hst.out; rw [if_pos (by have := Hx0.out; omega)] at h
        rw [← h]; exact Hsk.out)
       have Hpm' := Lib.hid (show ((l.set m fp).set (m - 1) fm).Perm ks by
        have hl := Hlen.out; have h1 := Hfm.out; have h2 := Hfp.out; rw [List.getElem?_eq_getElem (by omega)] at h1 h2
        have h1 := Option.some.inj h1; have h2 := Option.some.inj h2; rw [← h1, ← h2]; exact (List.set_set_perm (by omega) (by omega)).trans Hpm.out)
       go_wp2_with fail
       go_region
       go_wp2_with fail
       go_roundw
       case rel =>
        refine ⟨m - 1, (l.set m fp).set (m - 1) fm, rfl, by omega, Hsk', Hpm', ?_, ?_⟩
        ·exact RowsAt.drewN (n_set (n_set hrB Hfm.out fp) (by rw [List.getElem?_set_ne (by omega)]; exact Hfp.out) fm)
        ·exact gb_drewN' (gb_trans hg' (gb_trans (gb_below hB _) (gb_trans (gb_setCell _ _ _ _) (gb_setCell _ _ _ _))))
       case measure => simp [intOf]; omega
      ·have d1 : decide (x < 0) = false := decide_eq_false hx
       have hl : l = insN f ks (k + 1) := by
        have h := Hst.out; rw [if_neg (by have := Hx0.out; omega)] at h
        rw [← h]; exact Hsk.out
       have hr2 := hr'.below hB; rw [hl] at hr2
       clear hS0; go_wp2_with fail
       go_roundw
       case rel => exact ⟨k + 1, by go_num, by omega, by omega, hr2, gb_trans hg' (gb_below hB _)⟩
       case measure => simp [intOf]; omega
  ·obtain rfl : k = n := by omega
   rw [← HE.out] at hr
   go_wp2_with fail
   go_end0
   exact ⟨rfl, hr, hg⟩
set_option maxRecDepth 100000 in
set_option maxHeartbeats 4000000 in
theorem pdqN_calls (G : Nat) (caps : Array Value) (f : Nat → Nat → Int) (g off cap : Nat) (lim : Int) (ks : List Nat) (w : World) (hv : RowsAt w 3 g off 1 (ks.map inRow)) (hn : ks.length ≤ 12) (h1 : 1 ≤ ks.length) (eg : ∀ args w, (callFunc G args).run Tryz.prog w = .ok (.enter G args) w)
  (hp : ∀ (W : World) (a b : Nat), a ∈ ks → b ∈ ks → w.grownBy W (some g) → Calls Tryz.prog G (#[.int .i64 (a : Int), .int .i64 (b : Int)] ++ caps) W (IntBelow (f a b) W)) :
  Calls Tryz.prog 142 #[.slice (some ⟨g, off, none⟩) ks.length cap, .int .i64 0, .int .i64 (ks.length : Int), .int .i64 lim, .func (.func G) #[] caps] w (SortedN f g off ks w) := by
 have C := Lib.hid (insN_calls G caps f g off cap ks w hv hn h1 eg hp)
 have HQ := Lib.hid (show ∀ e w', SortedN f g off ks w e w' → e = .returned (.tuple #[]) ∧ SortedN f g off ks w (.returned (.tuple #[])) w' from fun e w' h => ⟨h.1, rfl, h.2⟩)
 clear hv hp
 generalize ks.length = n at hn h1 C ⊢
 have e1 : decide (n ≤ 12) = true := decide_eq_true hn
 have e2 : decide ((n : Int) ≤ 12) = true := decide_eq_true (by omega)
 go_enter Tryz.func142, Tryz.ntmps142
 go_wp2_with fail
 refine wp_loop_rounds 1 ?_
 rw [rounds_succ]
 go_wp2_with fail
 refine C.out.mono ?_
 intro e w' h
 obtain ⟨rfl, h⟩ := HQ.out e w' h
 go_wp2_with fail
 go_end0
 exact h
theorem bitsLen_calls (x : Int) (w : World) (h0 : 0 ≤ x) (h1 : x ≤ 1000000) : Calls Tryz.prog 143 #[.int .u64 x] w fun e w' => e = .returned (.int .i64 (Lib.bitLen x.toNat)) ∧ w' = w := by
 have C := Lib.hid (Tryz.bits_Len64 x w h0 (by omega))
 go_enter Tryz.func143, Tryz.ntmps143
 go_wp2_with fail
 refine C.out.mono ?_
 rintro e w' ⟨rfl, rfl⟩
 go_wp2_with fail
 go_ret
 exact ⟨rfl, rfl⟩
set_option maxRecDepth 100000 in
set_option maxHeartbeats 4000000 in
theorem sortN_calls (G : Nat) (caps : Array Value) (f : Nat → Nat → Int) (g off cap : Nat) (ks : List Nat) (w : World) (hv : RowsAt w 3 g off 1 (ks.map inRow)) (hn : ks.length ≤ 12) (h1 : 1 ≤ ks.length) (eg : ∀ args w, (callFunc G args).run Tryz.prog w = .ok (.enter G args) w)
  (hp : ∀ (W : World) (a b : Nat), a ∈ ks → b ∈ ks → w.grownBy W (some g) → Calls Tryz.prog G (#[.int .i64 (a : Int), .int .i64 (b : Int)] ++ caps) W (IntBelow (f a b) W)) :
  Calls Tryz.prog 127 #[.slice (some ⟨g, off, none⟩) ks.length cap, .func (.func G) #[] caps] w (SortedN f g off ks w) := by
 have C := Lib.hid (fun lim => pdqN_calls G caps f g off cap lim ks w hv hn h1 eg hp)
 have HQ := Lib.hid (show ∀ e w', SortedN f g off ks w e w' → e = .returned (.tuple #[]) ∧ SortedN f g off ks w (.returned (.tuple #[])) w' from fun e w' h => ⟨h.1, rfl, h.2⟩)
 clear hv hp
 generalize ks.length = n at hn h1 C ⊢
 have CB := Lib.hid (bitsLen_calls (n : Int) w (by omega) (by omega))
 have x1 : IntKind.u64.wrap (n : Int) = (n : Int) := IntWalk.u64_in _ (by omega)
 go_enter Tryz.func127, Tryz.ntmps127
 go_wp2_with fail
 refine CB.out.mono ?_
 rintro e w' ⟨rfl, rfl⟩
 go_wp2_with fail
 refine (C.out _).mono ?_
 intro e w' h
 obtain ⟨rfl, h⟩ := HQ.out e w' h
 go_wp2_with fail
 go_end0
 exact h
def Same0 (w : World) (e : Ending) (w' : World) : Prop := e = .returned (.tuple #[]) ∧ w' = w
theorem ins0_calls (G : Nat) (caps : Array Value) (ad : Option Addr) (cp : Nat) (w : World) : Calls Tryz.prog 152 #[.slice ad 0 cp, .int .i64 0, .int .i64 0, .func (.func G) #[] caps] w (Same0 w) := by
 go_enter Tryz.func152, Tryz.ntmps152
 go_wp2_with fail
 refine wp_loop_rounds 1 ?_
 rw [rounds_succ]
 go_wp2_with fail
 go_end0
 exact ⟨rfl, rfl⟩
set_option maxRecDepth 100000 in
set_option maxHeartbeats 4000000 in
theorem pdq0_calls (G : Nat) (caps : Array Value) (ad : Option Addr) (cp : Nat) (lim : Int) (w : World) : Calls Tryz.prog 142 #[.slice ad 0 cp, .int .i64 0, .int .i64 0, .int .i64 lim, .func (.func G) #[] caps] w (Same0 w) := by
 have C := Lib.hid (ins0_calls G caps ad cp w)
 have HQ := Lib.hid (show ∀ e w', Same0 w e w' → e = .returned (.tuple #[]) ∧ Same0 w (.returned (.tuple #[])) w' from fun e w' h => ⟨h.1, rfl, h.2⟩)
 go_enter Tryz.func142, Tryz.ntmps142
 go_wp2_with fail
 refine wp_loop_rounds 1 ?_
 rw [rounds_succ]
 go_wp2_with fail
 refine C.out.mono ?_
 intro e w' h
 obtain ⟨rfl, h⟩ := HQ.out e w' h
 go_wp2_with fail
 go_end0
 exact h
set_option maxRecDepth 100000 in
/-- Nothing to sort. -/
theorem sort0_calls (G : Nat) (caps : Array Value) (ad : Option Addr) (cp : Nat) (w : World) : Calls Tryz.prog 127 #[.slice ad 0 cp, .func (.func G) #[] caps] w (Same0 w) := by
 have CB := Lib.hid (bitsLen_calls 0 w (by omega) (by omega))
 have CP := Lib.hid (fun lim => pdq0_calls G caps ad cp lim w)
 have HQ := Lib.hid (show ∀ e w', Same0 w e w' → e = .returned (.tuple #[]) ∧ Same0 w (.returned (.tuple #[])) w' from fun e w' h => ⟨h.1, rfl, h.2⟩)
 go_enter Tryz.func127, Tryz.ntmps127
 go_wp2_with fail
 refine CB.out.mono ?_
 rintro e w' ⟨rfl, rfl⟩
 go_wp2_with fail
 refine (CP.out _).mono ?_
 intro e w' h
 obtain ⟨rfl, h⟩ := HQ.out e w' h
 go_wp2_with fail
 go_end0
 exact h
end Go.Proofs.YtfcaokpadodijaaGreat
/- Some players of a list, drawn. -/
namespace Go.Proofs.YtfcaokpadodijaaGreat
open Go.RowKit

theorem own_mono {w : World} {base base' e size : Nat} {v : Value} {n : Nat} {xs : List Value} (h : w.ownsRow base e size v n xs) (hb : base' ≤ base) : w.ownsRow base' e size v n xs := by
 refine ⟨h.1, ?_⟩
 rcases h.2 with h | ⟨g, cap, cur, e, hg, rest⟩
 ·exact .inl h
 ·exact .inr ⟨g, cap, cur, e, Nat.le_trans hb hg, rest⟩
/-- Names that are small, at most m of them. -/
def NamesV (lo m : Nat) (w : World) (v : Value) : Prop := ∃ ks : List ByteArray, w.ownsRow lo 9 1 v ks.length (ks.map .string) ∧ ks.length ≤ m ∧ ∀ k ∈ ks, k.size ≤ 1000
def P_zed : ByteArray := ⟨#[122, 101, 100]⟩
set_option maxRecDepth 100000 in
set_option maxHeartbeats 4000000 in
theorem someOf_calls (B N lo : Nat) (v : Value) (xs : List ScD) (w : World) (hs : St w B N) (hN : N ≤ 3970000) (hC : Scs w lo v xs) (hlo : B < lo) (hn : xs.length ≤ 100) (hsm : ∀ c ∈ xs, SmallSc c) :
  Calls Tryz.prog 28 #[.pointer (some ⟨B, 0, none⟩), v] w (Made B (N + 2 * xs.length + 2) (NamesV w.heap.size (xs.length + 1)) w) := by
 obtain ⟨i0, hi, hz0, hz1, hz2⟩ := info_parts info_str
 have hBw := hs.lt
 have HC := Lib.hid hC
 have Hsm := Lib.hid hsm
 obtain ⟨a, c, rfl⟩ := NRows.shape hC
 obtain ⟨n, hn'⟩ : ∃ n, n = xs.length := ⟨_, rfl⟩
 have Hn := Lib.hid hn'
 rw [← hn'] at hn ⊢
 clear hC hsm hn'
 go_enter Tryz.func28, Tryz.ntmps28
 go_wp2_with fail
 refine (order_calls B N n w hs (by omega) (by omega)).mono ?_
 rintro e w1 ⟨v, hO, rfl, hs1, hg1⟩
 obtain ⟨oa, oc, rfl⟩ := hO.shape
 have HO := Lib.hid hO
 have hsz := hg1.size
 clear hs hO
 go_wp2_with fail
 go_loopw [5, 13] (fun out i wr => ∃ (k : Nat) (ks : List ByteArray), k ≤ n ∧ i = .int .i64 k ∧ wr.ownsRow w1.heap.size 9 1 out ks.length (ks.map .string) ∧ ks.length ≤ k ∧ Hid (∀ s ∈ ks, s.size ≤ 1000) ∧ St wr B (N + n + k) ∧ w1.grownBy wr (some B)) (fun _ i _ => n - (intOf i).toNat)
 case atStart => exact ⟨0, [], Nat.zero_le _, rfl, World.ownsRow_nil _ _ _ _, by simp, Lib.hid (by simp), hs1, gb_refl _ _⟩
 case round =>
  obtain ⟨k, ks, hk, rfl, hown, hkl, Hks, hsr, hg⟩ := hrel; clear hs1; by_cases hlt : k < n
  ·have hlt' : (k : Int) < (n : Int) := by omega
   obtain ⟨og, oo, x, rfl, hog, hog1, hx, hcx⟩ := (HO.out.other hg hBw).at hlt
   go_wp2_with fail
   refine (flip_calls B _ 2 _ hsr (by omega) (by omega) (by omega)).mono ?_
   rintro e w2 ⟨v, ⟨b, rfl⟩, rfl, hs2, hg2⟩; have hg12 := gb_trans hg hg2; have hown2 := hown.kept hg2 (.inr fun e => by have := (own_block hown B e).1; omega)
   clear hcx hsr hg hown; cases b
   ·go_wp2_with fail
    go_roundw
    case rel => exact ⟨k + 1, ks, by omega, by go_num, hown2, by omega, Hks, hs2.mono (by omega), hg12⟩
    case measure => simp [intOf]; omega
   ·rcases scs_at (NRows.other HC.out (gb_trans hg1 hg12) hlo) with ⟨_, h⟩ | ⟨g, off, cap, e, _, hgl, _, hcell⟩
    ·have := Hn.out; rw [h] at this; simp at this; omega
    simp only [Value.slice.injEq] at e
    obtain ⟨rfl, -, rfl⟩ := e; obtain ⟨s, hs'⟩ : ∃ s, xs[x]? = some s := ⟨_, List.getElem?_eq_getElem (by have := Hn.out; omega)⟩
    obtain ⟨_, q0, _⟩ := hcell x s hs'; have Hss := Lib.hid (Hsm.out s (List.mem_of_getElem? hs')).1; have hxn : (x : Int) < (n : Int) := by omega
    have hz := hg12.size; clear hs' hcell; go_wp2_with (at_builtin; refine wpList_append_own _ rfl _ _ 39 rfl w1.heap.size 9 i0 (.string ⟨#[]⟩) 1 16 Tryz.underlying39 hi hz0 hz1 hz2 rfl (by decide) _ _ _ rfl (hown2.alloc _) ⟨w2.heap.size, 0, none⟩ 1 1 [.string s.who] rfl rfl ?c1 ?c2 ?c3 ?c4 ?c5 ?_)
    case c1 => exact cells_new _ _ _
    case c2 => simp [Value.oneCell']
    case c3 => unfold maxLen; omega
    case c4 => omega
    case c5 => simp; omega
    intro v' w4 hown4 hgrow _; go_wp2_with fail
    go_roundw
    case rel =>
     refine ⟨k + 1, ks ++ [s.who], by omega, by go_num, by simpa using hown4, by simp; omega, Lib.hid fun y hy => ?_, ((hs2.alloc _).grown hgrow fun r hr => ?_).mono (by omega), gb_then (gb_trans hg12 (gb_alloc _ _ _)) hgrow fun r hr => ?_⟩
     ·rcases List.mem_append.1 hy with h | h
      ·exact Hks.out y h
      ·obtain rfl := List.mem_singleton.1 h; exact Hss.out
     ·have := (own_block hown2 r hr).1; omega
     ·have := (own_block hown2 r hr).1; omega
    case measure => simp [intOf]; omega
  ·obtain rfl : k = n := by omega
   go_wp2_with fail
   refine (flip_calls B _ 15 _ hsr (by omega) (by omega) (by omega)).mono ?_
   rintro e w2 ⟨v, ⟨b, rfl⟩, rfl, hs2, hg2⟩; have hg12 := gb_trans hg hg2; have hown2 := hown.kept hg2 (.inr fun e => by have := (own_block hown B e).1; omega)
   clear hsr hg hown; cases b
   ·go_wp2_with fail
    go_ret
    exact ⟨_, ⟨ks, own_mono hown2 hsz, by omega, Hks.out⟩, rfl, hs2.mono (by omega), gb_trans hg1 hg12⟩
   ·go_wp2_with fail
    refine (some_calls B _ w2.heap.size _ [P_ann, P_zed] _ (hs2.alloc _) (by omega) (strs_new w2 [P_ann, P_zed] (by simp)) hs2.lt (by simp)).mono ?_
    rintro e w3 ⟨v, ⟨s, rfl, hs'⟩, rfl, hs3, hg3⟩
    have Hss := Lib.hid (show s.size ≤ 1000 by
     simp only [List.mem_cons, List.not_mem_nil, or_false] at hs'
     rcases hs' with rfl | rfl <;> decide)
    have hown3 := (hown2.alloc (.cells ([P_ann, P_zed].map Value.string).toArray 9)).kept hg3 (.inr fun e => by have := (own_block hown2 B e).1; omega)
    have hg13 := gb_trans hg12 (gb_trans (gb_alloc w2 (.cells ([P_ann, P_zed].map Value.string).toArray 9) _) hg3); have hz := hg13.size; clear hs' hs2 hg2 hg3 hown2 hg12; go_wp2_with (at_builtin; refine wpList_append_own _ rfl _ _ 39 rfl w1.heap.size 9 i0 (.string ⟨#[]⟩) 1 16 Tryz.underlying39 hi hz0 hz1 hz2 rfl (by decide) _ _ _ rfl (hown3.alloc _) ⟨w3.heap.size, 0, none⟩ 1 1 [.string s] rfl rfl ?c1 ?c2 ?c3 ?c4 ?c5 ?_)
    case c1 => exact cells_new _ _ _
    case c2 => simp [Value.oneCell']
    case c3 => unfold maxLen; omega
    case c4 => omega
    case c5 => simp; omega
    intro v' w4 hown4 hgrow _; go_wp2_with fail
    go_ret
    refine ⟨_, ⟨ks ++ [s], own_mono (by simpa using hown4) hsz, by simp; omega, fun y hy => ?_⟩, rfl, ((hs3.alloc _).grown hgrow fun r hr => ?_).mono (by omega), gb_trans hg1 (gb_then (gb_trans hg13 (gb_alloc _ _ _)) hgrow fun r hr => ?_)⟩
    ·rcases List.mem_append.1 hy with h | h
     ·exact Hks.out y h
     ·obtain rfl := List.mem_singleton.1 h; exact Hss.out
    ·have := (own_block hown3 r hr).1; omega
    ·have := (own_block hown3 r hr).1; omega
end Go.Proofs.YtfcaokpadodijaaGreat
/- slices.Clone at fills. -/
namespace Go.Proofs.YtfcaokpadodijaaGreat
open Go.RowKit

theorem info_fi : (Tryz.prog.info? 49).map (fun i => (i.zero, i.size, i.bytes)) = some (some (.agg #[.string ⟨#[]⟩, .string ⟨#[]⟩]), 2, 32) := by kernel_rfl
/-- Fills that the call owns. -/
def OwnFi (w : World) (base : Nat) (v : Value) (fs : List FiD) : Prop := w.ownsRow base 49 2 v fs.length (fs.map fiRow).flatten
end Go.Proofs.YtfcaokpadodijaaGreat
namespace Go.Proofs.YtfcaokpadodijaaGreat
open Go.RowKit

set_option maxRecDepth 100000 in
set_option maxHeartbeats 1000000 in
theorem cloneS_calls (lo : Nat) (v : Value) (fs : List ByteArray) (w : World) (hv : Strs w lo v fs) :
  Calls Tryz.prog 39 #[v] w fun e w' => ∃ v', w'.ownsRow w.heap.size 9 1 v' fs.length (fs.map .string) ∧ e = .returned v' ∧ Below w.heap.size w w' := by
 obtain ⟨i0, hi, hz0, hz1, hz2⟩ := info_parts info_str
 have hnil := fun a n c => Lib.run_eql_slice_nil (P := Tryz.prog) w 39 9 a n c 0 0 Tryz.underlying39
 rcases hv.shape with ⟨rfl, h0⟩ | ⟨g, off, cap, cur, fr, rfl, hlc, hg, hc⟩
 ·obtain rfl : fs = [] := by simpa using h0
  clear hv hi hz0 hz1 hz2; go_enter Tryz.func39, Tryz.ntmps39; go_wp2_with fail
  go_ret
  exact ⟨_, World.ownsRow_nil _ _ _ _, rfl, Below.refl _ _⟩
 ·clear hlc
  have hn := hv.small; simp only [List.length_map] at hn
  have hgl := lt_of_heap hg
  have hflat : ∀ j u, (fs.map Value.string)[j]? = some u → cur[off + j]? = some u := by
   intro j u hu; rw [List.getElem?_map] at hu
   obtain ⟨f, hf, rfl⟩ := Option.map_eq_some_iff.1 hu; have h3 := hc j 0 (.string f) (by simp [hf])
   simpa using h3
  have hown : (w.alloc (.cells #[] 9)).ownsRow w.heap.size 9 1 (.slice (some ⟨w.heap.size, 0, none⟩) 0 0) 0 [] := World.ownsRow_made w #[] 0 (Nat.le_refl _) (by unfold maxLen; omega) rfl
  have hnews : ∀ j u, (fs.map Value.string)[j]? = some u → (w.alloc (.cells #[] 9)).cell? ((⟨g, off, none⟩ : Addr).add j) = some u := by
   intro j u hu; have hadd : (⟨g, off, none⟩ : Addr).add j = ⟨g, off + j, none⟩ := by unfold Addr.add; split <;> simp_all
   rw [hadd, World.cell?_alloc_past _ _ _ hgl, cell_of_row w g _ cur _ fr hg]; exact hflat j u hu
  have Hn := Lib.hid hnews; have Hl := Lib.hid (show (fs.map Value.string).length = fs.length * 1 by simp)
  clear hnews hc hflat hg hv; simp only [List.length_map]; go_enter Tryz.func39, Tryz.ntmps39; go_wp2_with (at_builtin; refine wpList_append_own _ rfl _ _ 39 rfl w.heap.size 9 i0 (.string ⟨#[]⟩) 1 16 Tryz.underlying39 hi hz0 hz1 hz2 rfl (by decide) _ 0 [] rfl hown ⟨g, off, none⟩ fs.length cap ((fs.map Value.string)) rfl Hl.out Hn.out ?c2 ?c3 ?c4 ?c5 ?_)
  case c2 =>
   intro u hu; obtain ⟨f, _, rfl⟩ := List.mem_map.1 hu; rfl
  case c3 => unfold maxLen; omega
  case c4 => omega
  case c5 => simp
  intro v' w4 hown4 hgrow _; go_wp2_with fail
  go_ret
  refine ⟨_, ?_, rfl, (below_alloc w _).grown hgrow (by simp) fun r hr => (own_block hown r hr).1⟩
  simpa using hown4

end Go.Proofs.YtfcaokpadodijaaGreat
