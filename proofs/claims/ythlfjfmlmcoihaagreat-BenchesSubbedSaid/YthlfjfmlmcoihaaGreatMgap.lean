/- Scorers, drawn: one of them may be changed. -/
import Derived.Test.YthlfjfmlmcoihaaGreatMgao
import Derived.Deep.CutRange
import Derived.Test.YthlfjfmlmcoihaaGreatMgac
/- How statistics, lines and positions are drawn. -/
namespace Go.Proofs.YthlfjfmlmcoihaaGreat
open Go.RowKit

def E_goal : ByteArray := ⟨#[103, 111, 97, 108]⟩
def E_pass : ByteArray := ⟨#[112, 97, 115, 115]⟩
def E_save : ByteArray := ⟨#[115, 97, 118, 101]⟩
def E_yard : ByteArray := ⟨#[121, 97, 114, 100]⟩
def E_none : ByteArray := ⟨#[]⟩
def E_zz : ByteArray := ⟨#[122, 122]⟩
def E_a : ByteArray := ⟨#[97]⟩
def E_ann : ByteArray := ⟨#[97, 110, 110]⟩
theorem info_st : (Tryz.prog.info? 122).map (fun i => (i.zero, i.size, i.bytes)) = some (some (.agg #[.string ⟨#[]⟩, .int .i64 0]), 2, 24) := by kernel_rfl
theorem info_rl : (Tryz.prog.info? 119).map (fun i => (i.zero, i.size, i.bytes)) = some (some (.agg #[.string ⟨#[]⟩, .string ⟨#[]⟩, .string ⟨#[]⟩, .int .i64 0, .int .i64 0, .int .i64 0, .int .i64 0]), 7, 80) := by kernel_rfl
theorem info_ln : (Tryz.prog.info? 125).map (fun i => (i.zero, i.size, i.bytes)) = some (some (.agg #[.string ⟨#[]⟩, .int .i64 0, .slice none 0 0]), 3, 48) := by kernel_rfl

/-- The positions drawn: five at most. -/
def Posits (lo : Nat) (w : World) (v : Value) : Prop := ∃ ks, Strs w lo v ks ∧ ks.length ≤ 5 ∧ ∀ k ∈ ks, k.size ≤ 1000
/-- The statistics drawn: five at most. -/
def SomeTds (lo : Nat) (w : World) (v : Value) : Prop := ∃ ts, Tds w lo v ts ∧ ts.length ≤ 5 ∧ ∀ t ∈ ts, SmallT t
end Go.Proofs.YthlfjfmlmcoihaaGreat
/- How lines and worths are drawn. -/
namespace Go.Proofs.YthlfjfmlmcoihaaGreat
open Go.RowKit

theorem heap_gb {w w' : World} {B g : Nat} {o : Obj} (h : w.heap[g]? = some o) (hg : w.grownBy w' (some B)) (hne : g ≠ B) : w'.heap[g]? = some o :=
  (hg.block g (lt_of_heap h) (by intro e; cases e; exact hne rfl)).trans h
theorem heap_al {w : World} {g : Nat} {o : Obj} (h : w.heap[g]? = some o) (o' : Obj) : (w.alloc o').heap[g]? = some o := (heap_alloc_old w o' (lt_of_heap h)).trans h

theorem heap_far {w : World} {X Y o : Nat} {u : Value} {b : Obj} (h : w.heap[X]? = some b) (hne : X ≠ Y) : (w.setCell ⟨Y, o, none⟩ u).heap[X]? = some b := by
  rw [← h]
  exact Below.heap_setCell w _ u X (by simpa using hne)
/-- Stores into one block, one after the other. -/
theorem GS (w : World) (a b c : Value) {X : Nat} : w.grownBy (((w.setCell ⟨X, 0, none⟩ a).setCell ⟨X, 1, none⟩ b).setCell ⟨X, 2, none⟩ c) (some X) := gb_trans (gb_setCell _ _ _ _) (gb_trans (gb_setCell _ _ _ _) (gb_setCell _ _ _ _))
theorem GS2 (w : World) (X : Nat) (a b : Value) : w.grownBy ((w.setCell ⟨X, 0, none⟩ a).setCell ⟨X, 1, none⟩ b) (some X) := gb_trans (gb_setCell _ _ _ _) (gb_setCell _ _ _ _)
/-- The line drawn. -/
def ALn (lo : Nat) (w : World) (v : Value) : Prop := ∃ l x, v = lnV l x ∧ Tds w lo x l.stats ∧ SmallL l
end Go.Proofs.YthlfjfmlmcoihaaGreat
/- How worths and rules are drawn. -/
namespace Go.Proofs.YthlfjfmlmcoihaaGreat
open Go.RowKit

/-- The cells of some fractions. -/
def frCells (fs : List (Int × Int)) : List Value := (fs.map fun f => [Value.int .i64 f.1, .int .i64 f.2]).flatten
def worthsA : List (Int × Int) := [(1, 1), (4, 1), (1, 25), (1, 2), (-2, 1), (0, 1), (7, 100)]
def worthsB : List (Int × Int) := [(2, 4), (1, 3), (1, 0), (-1, -1), (1, 200), (10001, 1), (-9223372036854775808, 1), (1, 4611686018427387904), (0, 2)]
theorem fr_pick {fs : List (Int × Int)} (hfs : fs.all (fun f => decide (-9223372036854775808 ≤ f.1 ∧ f.1 ≤ 9223372036854775807 ∧ -9223372036854775808 ≤ f.2 ∧ f.2 ≤ 9223372036854775807)) = true) {w : World} {T g r : Nat} {cur : Array Value} (h : w.heap[g]? = some (.cells cur T (0, 0))) (hc : cur = (frCells fs).toArray) (hr : r < fs.length) :
    ∃ n d : Int, w.cell? ⟨g, r * 2, none⟩ = some (.int .i64 n) ∧ w.cell? ⟨g, r * 2 + 1, none⟩ = some (.int .i64 d) ∧ Int64 n ∧ Int64 d := by
  obtain ⟨f, hf⟩ : ∃ f, fs[r]? = some f := ⟨fs[r], List.getElem?_eq_getElem hr⟩
  have hm := (List.all_eq_true.1 hfs) f (List.mem_of_getElem? hf)
  simp only [decide_eq_true_eq] at hm
  have hx : ∀ (j : Nat) (u : Value), [Value.int .i64 f.1, .int .i64 f.2][j]? = some u → w.cell? ⟨g, r * 2 + j, none⟩ = some u := by
    intro j u hu
    have := flat_at (sz := 2) (fs.map fun f => [Value.int .i64 f.1, .int .i64 f.2]) (by
      intro x hx; obtain ⟨y, _, rfl⟩ := List.mem_map.1 hx; rfl) r j u (by simpa [hf] using hu)
    rw [cell_of_row w g _ cur T (0, 0) h, hc, List.getElem?_toArray]
    exact this
  exact ⟨f.1, f.2, hx 0 _ rfl, hx 1 _ rfl, ⟨hm.1, hm.2.1⟩, hm.2.2⟩
def AFr (_ : World) (v : Value) : Prop := ∃ n d, v = frV (n, d) ∧ Int64 n ∧ Int64 d
set_option maxRecDepth 100000 in
set_option maxHeartbeats 2000000 in
theorem worth_calls (B N : Nat) (w : World) (hs : St w B N) (hN : N ≤ 3990000) :
    Calls Tryz.prog 48 #[.pointer (some ⟨B, 0, none⟩)] w (Made B (N + 4) AFr w) := by
  have hBw := hs.lt
  obtain ⟨C1, hC1⟩ : ∃ C1, C1 = (frCells worthsA).toArray := ⟨_, rfl⟩
  have hx0 := heap_alloc_new w (.cells #[.int .i64 0, .int .i64 0] 34)
  have hl0 := heap_alloc_new (w.alloc (.cells #[.int .i64 0, .int .i64 0] 34)) (.cells C1 34)
  have hx1 := heap_al hx0 (.cells C1 34)
  rw [World.size_alloc] at hl0
  go_enter Tryz.func48, Tryz.ntmps48
  go_wp2_with fail
  rw [show (#[Value.int .i64 1, .int .i64 1, .int .i64 4, .int .i64 1, .int .i64 1, .int .i64 25, .int .i64 1, .int .i64 2, .int .i64 (-2), .int .i64 1, .int .i64 0, .int .i64 1, .int .i64 7, .int .i64 100] : Array Value) = C1 from hC1.symm ▸ rfl]
  refine (next_calls B N 7 _ ((hs.alloc _).alloc _) (by omega) (by omega) (by omega)).mono ?_
  rintro e w1 ⟨v, ⟨r, rfl, hr⟩, rfl, hs1, hg1⟩
  have hx2 := heap_gb hx1 hg1 (by omega)
  have hl2 := heap_gb hl0 hg1 (by omega)
  obtain ⟨n, d, p0, p1, hn, hd⟩ := fr_pick (fs := worthsA) (by decide) hl2 hC1 (by show r < 7; omega)
  have Hn := Lib.hid hn
  have Hd := Lib.hid hd
  have hg01 : w.grownBy w1 (some B) := gb_trans (gb_alloc w _ _) (gb_trans (gb_alloc _ _ _) hg1)
  have hlt2 := lt_of_heap hx2
  clear hx0 hx1 hl0 hl2 hC1 hg1 hn hd hs
  go_wp2_with fail
  obtain ⟨X, hX⟩ : ∃ X, X = w1.heap.size := ⟨_, rfl⟩
  have hX0 : w.heap.size < X := by omega
  have hy3 : (w1.alloc (.cells #[.int .i64 n, .int .i64 d] 34)).heap[X]? = some (.cells #[.int .i64 n, .int .i64 d] 34 (0, 0)) := by rw [hX]; exact heap_alloc_new w1 _
  have hx3 := heap_al hx2 (.cells #[.int .i64 n, .int .i64 d] 34)
  refine (flip_calls B _ 25 _ (hs1.alloc _) (by omega) (by omega) (by omega)).mono ?_
  rintro e w2 ⟨v, ⟨b, rfl⟩, rfl, hs2, hg2⟩
  have hx4 := heap_gb hx3 hg2 (by omega)
  have hy4 := heap_gb hy3 hg2 (by omega)
  have hg02 : w.grownBy w2 (some B) := gb_trans hg01 (gb_trans (gb_alloc w1 _ _) hg2)
  rw [← hX]
  clear hx2 hx3 hy3 hg2 hs1 hg01 p0 p1 hX hlt2
  cases b
  · have z0 := cell_at hx4 0 rfl
    have z1 := cell_at hx4 1 rfl
    have f0 := free_of hx4 0
    have f1 := free_of hx4 1
    have y0 := cell_at hy4 0 rfl
    have y1 := cell_at hy4 1 rfl
    go_wp2_with fail
    try simp only [Exit.inBlock, Exit.then]
    refine bodyPost_ret (v := frV (n, d)) ?_ rfl ⟨_, ⟨n, d, rfl, Hn.out, Hd.out⟩, rfl, ?_, ?_⟩
    · rw [results_cell1 rfl]
      unfold frV
      go_simp
    · exact (hs2.grown (GS2 _ w.heap.size _ _) fun r hr => by cases hr; exact hBw).mono (by omega)
    · exact gb_then hg02 (GS2 _ w.heap.size _ _) fun r hr => by cases hr; exact Nat.le_refl _
  · obtain ⟨C2, hC2⟩ : ∃ C2, C2 = (frCells worthsB).toArray := ⟨_, rfl⟩
    have hl5 := heap_alloc_new w2 (.cells C2 34)
    have hx5 := heap_al hx4 (.cells C2 34)
    have hy5 := heap_al hy4 (.cells C2 34)
    have hB2 := hs2.lt
    go_wp2_with fail
    rw [show (#[Value.int .i64 2, .int .i64 4, .int .i64 1, .int .i64 3, .int .i64 1, .int .i64 0, .int .i64 (-1), .int .i64 (-1), .int .i64 1, .int .i64 200, .int .i64 10001, .int .i64 1, .int .i64 (-9223372036854775808), .int .i64 1, .int .i64 1, .int .i64 4611686018427387904, .int .i64 0, .int .i64 2] : Array Value) = C2 from hC2.symm ▸ rfl]
    refine (next_calls B _ 9 _ (hs2.alloc _) (by omega) (by omega) (by omega)).mono ?_
    rintro e w3 ⟨v, ⟨r, rfl, hr⟩, rfl, hs3, hg3⟩
    have hx6 := heap_gb hx5 hg3 (by omega)
    have hy6 := heap_gb hy5 hg3 (by omega)
    have hl6 := heap_gb hl5 hg3 (by omega)
    have Hl6 := Lib.hid (lt_of_heap hl6)
    obtain ⟨n, d, p0, p1, hn, hd⟩ := fr_pick (fs := worthsB) (by decide) hl6 hC2 (by show r < 9; omega)
    have Hn := Lib.hid hn
    have Hd := Lib.hid hd
    have hg03 : w.grownBy w3 (some B) := gb_trans hg02 (gb_trans (gb_alloc w2 _ _) hg3)
    have z0 := cell_at hx6 0 rfl
    have z1 := cell_at hx6 1 rfl
    have f0 := free_of hx6 0
    have f1 := free_of hx6 1
    have y0 := cell_at hy6 0 rfl
    have y1 := cell_at hy6 1 rfl
    have g0 := free_of hy6 0
    have g1 := free_of hy6 1
    have hne : w.heap.size ≠ X := by omega
    clear hx4 hy4 hl5 hx5 hy5 hl6 hC2 hg3 hn hd hs2 hg02
    go_wp2_with fail
    try simp only [Exit.inBlock, Exit.then]
    refine bodyPost_ret (v := frV (n, d)) ?_ rfl ⟨_, ⟨n, d, rfl, Hn.out, Hd.out⟩, rfl, ?_, ?_⟩
    · rw [results_cell1 rfl]
      unfold frV
      go_simp
    · exact ((hs3.grown (GS2 _ X _ _) fun r hr => by cases hr; omega).grown (GS2 _ w.heap.size _ _) fun r hr => by cases hr; exact hBw).mono (by omega)
    · exact gb_then (gb_then hg03 (GS2 _ X _ _) fun r hr => by cases hr; omega) (GS2 _ w.heap.size _ _) fun r hr => by cases hr; exact Nat.le_refl _
end Go.Proofs.YthlfjfmlmcoihaaGreat
/- How right slots and right scorers are drawn. -/
namespace Go.Proofs.YthlfjfmlmcoihaaGreat
open Go.RowKit

structure SlD where
  key : ByteArray
  pos : List ByteArray
structure ScD where
  who : ByteArray
  pos : List ByteArray
  num : Int
  den : Int
  played : Bool
def slRow (s : SlD) (x : Value) : List Value := [.string s.key, x]
def scRow (c : ScD) (x : Value) : List Value := [.string c.who, x, .int .i64 c.num, .int .i64 c.den, .bool c.played]
def Sls (w : World) (lo : Nat) (v : Value) (xs : List SlD) : Prop := NRows slRow SlD.pos w 78 lo 2 v xs
def Scs (w : World) (lo : Nat) (v : Value) (xs : List ScD) : Prop := NRows scRow ScD.pos w 83 lo 5 v xs
def OwnSl (w : World) (lo : Nat) (v : Value) (xs : List SlD) : Prop := NOwn slRow SlD.pos w 78 lo 2 v xs
def OwnSc (w : World) (lo : Nat) (v : Value) (xs : List ScD) : Prop := NOwn scRow ScD.pos w 83 lo 5 v xs
theorem info_sl : (Tryz.prog.info? 78).map (fun i => (i.zero, i.size, i.bytes)) = some (some (.agg #[.string ⟨#[]⟩, .slice none 0 0]), 2, 40) := by kernel_rfl
theorem info_sc : (Tryz.prog.info? 83).map (fun i => (i.zero, i.size, i.bytes)) = some (some (.agg #[.string ⟨#[]⟩, .slice none 0 0, .int .i64 0, .int .i64 0, .bool false]), 5, 64) := by kernel_rfl
def K_sa : ByteArray := ⟨#[115, 97]⟩
def K_sb : ByteArray := ⟨#[115, 98]⟩
def K_sc : ByteArray := ⟨#[115, 99]⟩
def K_sd : ByteArray := ⟨#[115, 100]⟩
def slotsO : Obj := .cells #[.string K_sb, .string K_sa, .string K_sc, .string K_sd] 9 (0, 0)
/-- What a slot holds is small. -/
def SmallSl (s : SlD) : Prop := s.key.size ≤ 1000 ∧ s.pos.length ≤ 5 ∧ ∀ k ∈ s.pos, k.size ≤ 1000
def TightSl (s : SlD) : Prop := s.key.size ≤ 1000 ∧ s.pos.length ≤ 4 ∧ ∀ k ∈ s.pos, k.size ≤ 1000
theorem TightSl.small {s : SlD} (h : TightSl s) : SmallSl s := ⟨h.1, by have := h.2.1; omega, h.2.2⟩
def SmallSc (c : ScD) : Prop := c.who.size ≤ 1000 ∧ c.pos.length ≤ 5 ∧ (∀ k ∈ c.pos, k.size ≤ 1000) ∧ Int64 c.num ∧ Int64 c.den
def RightSl (lo : Nat) (w : World) (v : Value) : Prop := ∃ xs : List SlD, OwnSl w lo v xs ∧ 1 ≤ xs.length ∧ xs.length ≤ 4 ∧ ∀ s ∈ xs, TightSl s
set_option maxRecDepth 100000 in
set_option maxHeartbeats 4000000 in
theorem rightSlots_calls (B N : Nat) (w : World) (hs : St w B N) (hN : N ≤ 3980000) :
    Calls Tryz.prog 44 #[.pointer (some ⟨B, 0, none⟩)] w (Made B (N + 40) (RightSl w.heap.size) w) := by
  obtain ⟨i0, hi, hz0, hz1, hz2⟩ := info_parts info_sl
  have hBw := hs.lt
  go_enter Tryz.func44, Tryz.ntmps44
  go_wp2_with fail
  refine (range_calls B N 1 4 _ (hs.alloc _) (by omega) (by omega) (by omega) (by omega)).mono ?_
  rintro e w1 ⟨v, ⟨m0, rfl, hm0, hm4⟩, rfl, hs1, hg1⟩
  have hk1 : w1.heap[w.heap.size]? = some slotsO := heap_gb (heap_alloc_new w _) hg1 (by omega)
  have hg01 : w.grownBy w1 (some B) := gb_trans (gb_alloc w _ _) hg1
  obtain ⟨n, rfl⟩ : ∃ n : Nat, m0 = (n : Int) := ⟨m0.toNat, by omega⟩
  have hn1 : 1 ≤ n := by omega
  have hn4 : n ≤ 4 := by omega
  clear hg1 hs hm0 hm4
  go_wp2_with fail
  go_loopw [3, 11] (fun out i wr => ∃ (j : Nat) (xs : List SlD), j ≤ n ∧ i = .int .i64 j ∧ xs.length = j ∧ Hid (∀ s ∈ xs, TightSl s) ∧ Hid (OwnSl wr (w.heap.size + 1) out xs) ∧ St wr B (N + 1 + 6 * j) ∧ w.grownBy wr (some B) ∧ wr.heap[w.heap.size]? = some slotsO) (fun _ i _ => n - (intOf i).toNat)
  case atStart => exact ⟨0, [], by omega, rfl, rfl, Lib.hid (by simp), Lib.hid (NOwn.nil _ _ _ _ _ _), hs1, hg01, hk1⟩
  case round =>
    obtain ⟨j, xs, hj, rfl, hkl, Hxs, Hown, hsr, hg, hk⟩ := hrel
    clear hs1 hg01 hk1
    by_cases hlt : j < n
    · have hcell : ∃ k, k.size ≤ 1000 ∧ wr.cell? ⟨w.heap.size, j, none⟩ = some (.string k) := by
        rw [cell_of_row wr _ _ _ _ _ hk]
        match j, (show j < 4 by omega) with
        | 0, _ => exact ⟨K_sb, by decide, rfl⟩
        | 1, _ => exact ⟨K_sa, by decide, rfl⟩
        | 2, _ => exact ⟨K_sc, by decide, rfl⟩
        | 3, _ => exact ⟨K_sd, by decide, rfl⟩
      obtain ⟨k, hkm, hcell⟩ := hcell
      have Hkm := Lib.hid hkm
      have hlk := lt_of_heap hk
      have hlt' : (j : Int) < (n : Int) := by omega
      clear hkm
      go_wp2_with fail
      refine (spots_calls B _ wr hsr (by omega)).mono ?_
      rintro e w3 ⟨pv, ⟨qs, hq0, hql, hqs⟩, rfl, hs3, hg3⟩
      have hq := strs_of_owns hq0 (by omega)
      clear hq0
      obtain ⟨qa, qc, rfl⟩ := strs_shape hq
      have hown3 := NOwn.keep Hown.out hg3 (by omega)
      have hk3 := heap_gb hk hg3 (by omega)
      have hg03 := gb_trans hg hg3
      have Hsm := Lib.hid (show TightSl ⟨k, qs⟩ from ⟨Hkm.out, by show qs.length ≤ 4; omega, fun x hx => small_of' (ks := spotKeys) (by decide) (hqs x hx)⟩)
      have Hq := Lib.hid (hq.mono (by omega : w.heap.size + 1 ≤ _))
      have hlk3 := lt_of_heap hk3
      obtain ⟨pvs, hpv, hrow, hpos⟩ := hown3
      have Hpos := Lib.hid hpos
      have Hpv := Lib.hid hpv
      have Hkl := Lib.hid hkl
      have hxl : xs.length ≤ 4 := by omega
      clear hk hg hg3 hq hqs hql hpos Hown hsr hcell hpv hkl
      go_wp2_with (at_builtin; refine wpList_append_own _ rfl _ _ 26 rfl (w.heap.size + 1) 78 i0 (.agg #[.string ⟨#[]⟩, .slice none 0 0]) 2 40 Tryz.underlying26 hi hz0 hz1 hz2 rfl (by decide) _ _ _ rfl (hrow.alloc _) ⟨w3.heap.size, 0, none⟩ 1 1 [.string k, .slice qa qs.length qc] rfl rfl ?c1 ?c2 ?c3 ?c4 ?c5 ?_)
      case c1 => exact cells_new _ _ _
      case c2 => simp [Value.oneCell']
      case c3 => unfold maxLen; omega
      case c4 => omega
      case c5 => simp; omega
      intro v' w4 hown4 hgrow _
      go_wp2_with fail
      go_roundw
      case rel =>
        refine ⟨j + 1, xs ++ [⟨k, qs⟩], by omega, by go_num, by rw [List.length_append, Hkl.out]; rfl, Lib.hid fun x hx => ?_, Lib.hid ?_, ((hs3.alloc _).grown hgrow fun r hr => ?_).mono (by omega), gb_then (gb_trans hg03 (gb_alloc _ _ _)) hgrow fun r hr => ?_, (hgrow.block _ (by simp; omega) fun e => ?_).trans ((heap_alloc_old _ _ hlk3).trans hk3)⟩
        · rcases List.mem_append.1 hx with h | h
          · exact Hxs.out x h
          · obtain rfl := List.mem_singleton.1 h; exact Hsm.out
        · exact NOwn.snoc (x := .slice qa qs.length qc) Hpv.out (fun i x a hx ha => (Hpos.out i x a hx ha).below (below_alloc w3 _)) (Hq.out.below (below_alloc w3 _)) (by decide) (hrow.alloc _) hown4 hgrow
        · have := (own_block hrow r hr).1; omega
        · have := (own_block hrow r hr).1; omega
        · have := (own_block hrow _ e.symm).1; omega
      case measure => simp [intOf]; omega
    · obtain rfl : j = n := by omega
      clear hk
      go_wp2_with fail
      go_ret
      exact ⟨_, ⟨xs, NOwn.mono Hown.out (by omega), by omega, by omega, Hxs.out⟩, rfl, hsr.mono (by omega), hg⟩
def P_ann : ByteArray := ⟨#[97, 110, 110]⟩
def P_bea : ByteArray := ⟨#[98, 101, 97]⟩
def P_cid : ByteArray := ⟨#[99, 105, 100]⟩
def P_dan : ByteArray := ⟨#[100, 97, 110]⟩
def P_eve : ByteArray := ⟨#[101, 118, 101]⟩
def P_fox : ByteArray := ⟨#[102, 111, 120]⟩
def scorersO : Obj := .cells #[.string P_ann, .string P_bea, .string P_cid, .string P_dan, .string P_eve, .string P_fox] 9 (0, 0)
def RightSc (lo : Nat) (w : World) (v : Value) : Prop := ∃ xs : List ScD, OwnSc w lo v xs ∧ xs.length ≤ 6 ∧ ∀ s ∈ xs, SmallSc s
set_option maxRecDepth 100000 in
set_option maxHeartbeats 4000000 in
theorem rightScorers_calls (B N : Nat) (w : World) (hs : St w B N) (hN : N ≤ 3980000) :
    Calls Tryz.prog 47 #[.pointer (some ⟨B, 0, none⟩)] w (Made B (N + 60) (RightSc w.heap.size) w) := by
  obtain ⟨i0, hi, hz0, hz1, hz2⟩ := info_parts info_sc
  have hBw := hs.lt
  go_enter Tryz.func47, Tryz.ntmps47
  go_wp2_with fail
  go_loopw [3, 8] (fun out i wr => ∃ (j : Nat) (xs : List ScD), j ≤ 6 ∧ i = .int .i64 j ∧ xs.length ≤ j ∧ Hid (∀ s ∈ xs, SmallSc s) ∧ Hid (OwnSc wr (w.heap.size + 1) out xs) ∧ St wr B (N + 9 * j) ∧ w.grownBy wr (some B) ∧ wr.heap[w.heap.size]? = some scorersO) (fun _ i _ => 6 - (intOf i).toNat)
  case atStart => exact ⟨0, [], by omega, rfl, Nat.le_refl _, Lib.hid (by simp), Lib.hid (NOwn.nil _ _ _ _ _ _), hs.alloc _, gb_alloc w _ _, heap_alloc_new w _⟩
  case round =>
    obtain ⟨j, xs, hj, rfl, hkl, Hxs, Hown, hsr, hg, hk⟩ := hrel
    by_cases hlt : j < 6
    · have hcell : ∃ k, k.size ≤ 1000 ∧ wr.cell? ⟨w.heap.size, j, none⟩ = some (.string k) := by
        rw [cell_of_row wr _ _ _ _ _ hk]
        match j, hlt with
        | 0, _ => exact ⟨P_ann, by decide, rfl⟩
        | 1, _ => exact ⟨P_bea, by decide, rfl⟩
        | 2, _ => exact ⟨P_cid, by decide, rfl⟩
        | 3, _ => exact ⟨P_dan, by decide, rfl⟩
        | 4, _ => exact ⟨P_eve, by decide, rfl⟩
        | 5, _ => exact ⟨P_fox, by decide, rfl⟩
      obtain ⟨k, hkm, hcell⟩ := hcell
      have Hkm := Lib.hid hkm
      have hlk := lt_of_heap hk
      clear hkm
      go_wp2_with fail
      refine (flip_calls B _ 5 wr hsr (by omega) (by omega) (by omega)).mono ?_
      rintro e w1 ⟨v, ⟨b, rfl⟩, rfl, hs1, hg1⟩
      have Hown1 := Lib.hid (NOwn.keep Hown.out hg1 (by omega))
      have hk1 := heap_gb hk hg1 (by omega)
      have hg01 := gb_trans hg hg1
      clear Hown hsr hg1 hcell hk
      cases b
      · go_wp2_with fail
        refine (spots_calls B _ w1 hs1 (by omega)).mono ?_
        rintro e w3 ⟨pv, ⟨qs, hq0, hql, hqs⟩, rfl, hs3, hg3⟩
        have hq := strs_of_owns hq0 (by omega)
        obtain ⟨qa, qc, rfl⟩ := strs_shape hq
        have Hown3 := Lib.hid (NOwn.keep Hown1.out hg3 (by omega))
        have hk3 := heap_gb hk1 hg3 (by omega)
        have hg03 := gb_trans hg01 hg3
        have hw1 := hs1.lt
        have hsz1 : w.heap.size + 1 ≤ w1.heap.size := by have := lt_of_heap hk1; omega
        clear hs1 hg3 hq0 Hown1 hk1 hg01
        go_wp2_with fail
        refine (pick_calls B _ w3.heap.size _ [500, 500, 700, 650, 0, -100, 1040] _ (hs3.alloc _) (by omega) (ints_new w3 [500, 500, 700, 650, 0, -100, 1040] (by decide)) hs3.lt (by simp)).mono ?_
        rintro e w5 ⟨v, ⟨c, rfl, hc⟩, rfl, hs5, hg5⟩
        have hcI : Int64 c := by
          simp only [List.mem_cons, List.not_mem_nil, or_false] at hc
          unfold Int64; omega
        have hg35 : w3.grownBy w5 (some B) := gb_trans (gb_alloc w3 (.cells ([500, 500, 700, 650, 0, -100, 1040].map (Value.int .i64)).toArray 3) (some B)) hg5
        have Hown5 := Lib.hid (NOwn.keep Hown3.out hg35 (by omega))
        have hq5 := hq.other hg35 (by omega)
        have hk5 := heap_gb hk3 hg35 (by omega)
        have hg05 := gb_trans hg03 hg35
        clear hc hg5 hs3 hg03 hk3 hg35 hq Hown3
        go_wp2_with fail
        refine (ofHundredthsR_calls c w5 hcI).mono ?_
        rintro e w6 ⟨rfl, hb6⟩
        have hs6 := hs5.below hb6
        have Hown6 := Lib.hid (NOwn.below Hown5.out hb6)
        have hq6 := hq5.below hb6
        have hk6 := cells_later hk5 hb6
        have hg06 := gb_trans hg05 (gb_below hb6 (some B))
        have hfr : ∃ nu de : Int, frV (lowF c 100) = .agg #[.int .i64 nu, .int .i64 de] ∧ Int64 nu ∧ Int64 de :=
          ⟨_, _, rfl, tdiv_64 hcI (gcdI_pos (by omega)), tdiv_64 (show Int64 100 by unfold Int64; omega) (gcdI_pos (by omega))⟩
        obtain ⟨nu, de, hfr, hnu, hde⟩ := hfr
        rw [hfr]
        clear hs5 Hown5 hk5 hg05 hb6 hcI hfr hq5
        go_wp2_with fail
        refine (flip_calls B _ 4 w6 hs6 (by omega) (by omega) (by omega)).mono ?_
        rintro e w7 ⟨v, ⟨pl, rfl⟩, rfl, hs7, hg7⟩
        have hown7 := NOwn.keep Hown6.out hg7 (by omega)
        have hq7 := hq6.other hg7 (by omega)
        have hk7 := heap_gb hk6 hg7 (by omega)
        have hg07 := gb_trans hg06 hg7
        have Hsm := Lib.hid (show SmallSc ⟨k, qs, nu, de, !pl⟩ from ⟨Hkm.out, by show qs.length ≤ 5; omega, fun x hx => small_of' (ks := spotKeys) (by decide) (hqs x hx), hnu, hde⟩)
        have hsz7 : w.heap.size + 1 ≤ w7.heap.size := by have := lt_of_heap hk7; omega
        have Hq := Lib.hid (hq7.mono hsz1)
        have hlk7 := lt_of_heap hk7
        obtain ⟨pvs, hpv, hrow, hpos⟩ := hown7
        have Hpos := Lib.hid hpos
        have Hpv := Lib.hid hpv
        clear hs6 hg06 hg7 hk6 hq6 hq7 hqs hql hpos Hown6 hpv hnu hde
        go_wp2_with (at_builtin; refine wpList_append_own _ rfl _ _ 28 rfl (w.heap.size + 1) 83 i0 (.agg #[.string ⟨#[]⟩, .slice none 0 0, .int .i64 0, .int .i64 0, .bool false]) 5 64 Tryz.underlying28 hi hz0 hz1 hz2 rfl (by decide) _ _ _ rfl (hrow.alloc _) ⟨w7.heap.size, 0, none⟩ 1 1 [.string k, .slice qa qs.length qc, .int .i64 nu, .int .i64 de, .bool (!pl)] rfl rfl ?c1 ?c2 ?c3 ?c4 ?c5 ?_)
        case c1 => exact cells_new _ _ _
        case c2 => simp [Value.oneCell']
        case c3 => unfold maxLen; omega
        case c4 => omega
        case c5 => simp; omega
        intro v' w8 hown8 hgrow _
        go_wp2_with fail
        go_roundw
        case rel =>
          refine ⟨j + 1, xs ++ [⟨k, qs, nu, de, !pl⟩], by omega, by go_num, by simp; omega, Lib.hid fun x hx => ?_, Lib.hid ?_, ((hs7.alloc _).grown hgrow fun r hr => ?_).mono (by omega), gb_then (gb_trans hg07 (gb_alloc _ _ _)) hgrow fun r hr => ?_, (hgrow.block _ (by simp; omega) fun e => ?_).trans ((heap_alloc_old _ _ hlk7).trans hk7)⟩
          · rcases List.mem_append.1 hx with h | h
            · exact Hxs.out x h
            · obtain rfl := List.mem_singleton.1 h; exact Hsm.out
          · exact NOwn.snoc (x := .slice qa qs.length qc) Hpv.out (fun i x a hx ha => (Hpos.out i x a hx ha).below (below_alloc w7 _)) (Hq.out.below (below_alloc w7 _)) (by decide) (hrow.alloc _) hown8 hgrow
          · have := (own_block hrow r hr).1; omega
          · have := (own_block hrow r hr).1; omega
          · have := (own_block hrow _ e.symm).1; omega
        case measure => simp [intOf]; omega
      · go_wp2_with fail
        go_roundw
        case rel => exact ⟨j + 1, xs, by omega, by go_num, by omega, Hxs, Hown1, hs1.mono (by omega), hg01, hk1⟩
        case measure => simp [intOf]; omega
    · obtain rfl : j = 6 := by omega
      clear hk
      go_wp2_with fail
      go_ret
      exact ⟨_, ⟨xs, NOwn.mono Hown.out (by omega), by omega, Hxs.out⟩, rfl, hsr.mono (by omega), hg⟩
end Go.Proofs.YthlfjfmlmcoihaaGreat
namespace Go.Proofs.YthlfjfmlmcoihaaGreat
open Go.RowKit

/-- Scorers in block g, one of which is written: the stream goes on. -/
def CS (w : World) (B g m i n : Nat) (w' : World) : Prop :=
  ∃ (xs : List ScD) (pvs : List Value) (c : ScD), xs.length = m ∧ pvs.length = xs.length ∧ xs[i]? = some c ∧ (∀ x ∈ xs, SmallSc x) ∧ RowsAt w' 83 g 0 5 (nRows scRow xs pvs) ∧
    (∀ (k : Nat) (x : Value) (a : ScD), pvs[k]? = some x → xs[k]? = some a → Strs w' w.heap.size x a.pos) ∧ St w' B n ∧ w.grownBy w' (some B)
theorem CS.st {w : World} {B g m i n : Nat} {w' : World} (h : CS w B g m i n w') : St w' B n := by obtain ⟨_, _, _, _, _, _, _, _, _, h, _⟩ := h; exact h
theorem CS.gb {w : World} {B g m i n : Nat} {w' : World} (h : CS w B g m i n w') : w.grownBy w' (some B) := by obtain ⟨_, _, _, _, _, _, _, _, _, _, h⟩ := h; exact h
theorem CS.step {w : World} {B g m i n k : Nat} {w' w'' : World} (h : CS w B g m i n w') (hs : St w'' B k) (hg : w'.grownBy w'' (some B)) (hne : g ≠ B) (hB : B < w.heap.size) : CS w B g m i k w'' := by
  obtain ⟨xs, pvs, c, h1, h2, h3, h4, h5, h6, h7, h8⟩ := h
  exact ⟨xs, pvs, c, h1, h2, h3, h4, h5.lift (hg.block g h5.lt (by intro e; cases e; exact hne rfl)), fun k x a hx ha => (h6 k x a hx ha).other hg hB, hs, gb_trans h8 hg⟩
theorem CS.alloc {w : World} {B g m i n : Nat} {w' : World} (h : CS w B g m i n w') (o : Obj) : CS w B g m i n (w'.alloc o) := by
  obtain ⟨xs, pvs, c, h1, h2, h3, h4, h5, h6, h7, h8⟩ := h
  exact ⟨xs, pvs, c, h1, h2, h3, h4, h5.below (below_alloc w' o), fun k x a hx ha => (h6 k x a hx ha).below (below_alloc w' o), h7.alloc o, gb_trans h8 (gb_alloc w' o _)⟩
theorem CS.cells {w : World} {B g m i n : Nat} {w' : World} (h : CS w B g m i n w') : ∃ c : ScD, SmallSc c ∧
    w'.cell? ⟨g, i * 5, none⟩ = some (.string c.who) ∧ w'.cell? ⟨g, i * 5 + 2, none⟩ = some (.int .i64 c.num) ∧ w'.cell? ⟨g, i * 5 + 3, none⟩ = some (.int .i64 c.den) ∧ ∀ o, w'.frozen? ⟨g, o, none⟩ = false := by
  obtain ⟨xs, pvs, c, h1, h2, h3, h4, h5, h6, h7, h8⟩ := h
  have hi : i < pvs.length := by have := (List.getElem?_eq_some_iff.1 h3).1; omega
  have hx : ∀ (j : Nat) (u : Value), (scRow c pvs[i])[j]? = some u → w'.cell? ⟨g, i * 5 + j, none⟩ = some u := fun j u hu => by
    have := h5.cell (i := i) (j := j) (nRows_get h3 (List.getElem?_eq_getElem hi)) hu
    simpa using this
  exact ⟨c, h4 c (List.mem_of_getElem? h3), hx 0 _ rfl, hx 2 _ rfl, hx 3 _ rfl, fun o => h5.free o⟩
/-- One cell of the scorer is written, not that of the positions. -/
theorem CS.put {w : World} {B g m i n : Nat} {w' : World} (h : CS w B g m i n w') (hB : B < w.heap.size) (hg : w.heap.size ≤ g) (f : Nat) (u : Value) (hf : f < 5) (hu : ∀ c : ScD, SmallSc c → ∃ c' : ScD, SmallSc c' ∧ c'.pos = c.pos ∧ ∀ x, (scRow c x).set f u = scRow c' x) : CS w B g m i n (w'.setCell ⟨g, i * 5 + f, none⟩ u) := by
  obtain ⟨xs, pvs, c, h1, h2, h3, h4, h5, h6, h7, h8⟩ := h
  obtain ⟨c', hc', hp, he⟩ := hu c (h4 c (List.mem_of_getElem? h3))
  have hi : i < xs.length := (List.getElem?_eq_some_iff.1 h3).1
  have hip : i < pvs.length := by omega
  have hs := h5.set (i := i) (f := f) (nRows_get h3 (List.getElem?_eq_getElem hip)) hf u
  have hset : (nRows scRow xs pvs).set i ((scRow c pvs[i]).set f u) = nRows scRow (xs.set i c') pvs := by
    refine List.ext_getElem? fun k => ?_
    unfold nRows
    rw [he]
    by_cases hk : k = i
    · subst hk
      rw [List.getElem?_set_self (by rw [List.length_zipWith]; omega), List.getElem?_zipWith, List.getElem?_set_self hi, List.getElem?_eq_getElem hip]
    · rw [List.getElem?_set_ne (fun e => hk e.symm), List.getElem?_zipWith, List.getElem?_zipWith, List.getElem?_set_ne (fun e => hk e.symm)]
  rw [hset, Nat.zero_add] at hs
  have hgr := gb_setCell w' g (i * 5 + f) u
  obtain ⟨cur, hcur⟩ := h5.heap
  refine ⟨xs.set i c', pvs, c', by simpa using h1, by simpa using h2, by simp [hi], fun x hx => ?_, hs, fun k x a hx ha => ?_, h7.grown hgr fun r hr => by cases hr; omega, gb_then h8 hgr fun r hr => by cases hr; exact hg⟩
  · rcases List.mem_or_eq_of_mem_set hx with hx | rfl
    · exact h4 x hx
    · exact hc'
  · have key : Strs w' w.heap.size x a.pos := by
      by_cases hk : k = i
      · subst hk
        rw [List.getElem?_set_self hi] at ha
        cases ha
        rw [hp]; exact h6 k x c hx h3
      · rw [List.getElem?_set_ne (fun e => hk e.symm)] at ha
        exact h6 k x a hx ha
    exact key.row hgr fun r hr => ⟨cur, _, _, by cases hr; exact hcur, by decide⟩
theorem CS.who {w : World} {B g m i n : Nat} {w' : World} (h : CS w B g m i n w') (hB : B < w.heap.size) (hg : w.heap.size ≤ g) (k : ByteArray) (hk : k.size ≤ 1000) : CS w B g m i n (w'.setCell ⟨g, i * 5, none⟩ (.string k)) :=
  h.put hB hg 0 _ (by omega) fun c hc => ⟨{ c with who := k }, ⟨hk, hc.2⟩, rfl, fun _ => rfl⟩
theorem CS.num {w : World} {B g m i n : Nat} {w' : World} (h : CS w B g m i n w') (hB : B < w.heap.size) (hg : w.heap.size ≤ g) (k : Int) (hk : Int64 k) : CS w B g m i n (w'.setCell ⟨g, i * 5 + 2, none⟩ (.int .i64 k)) :=
  h.put hB hg 2 _ (by omega) fun c hc => ⟨{ c with num := k }, ⟨hc.1, hc.2.1, hc.2.2.1, hk, hc.2.2.2.2⟩, rfl, fun _ => rfl⟩
theorem CS.den {w : World} {B g m i n : Nat} {w' : World} (h : CS w B g m i n w') (hB : B < w.heap.size) (hg : w.heap.size ≤ g) (k : Int) (hk : Int64 k) : CS w B g m i n (w'.setCell ⟨g, i * 5 + 3, none⟩ (.int .i64 k)) :=
  h.put hB hg 3 _ (by omega) fun c hc => ⟨{ c with den := k }, ⟨hc.1, hc.2.1, hc.2.2.1, hc.2.2.2.1, hk⟩, rfl, fun _ => rfl⟩
def SomeSc (lo : Nat) (w : World) (v : Value) : Prop := ∃ xs : List ScD, Scs w lo v xs ∧ xs.length ≤ 6 ∧ ∀ c ∈ xs, SmallSc c
theorem CS.made {w : World} {B g m i n c : Nat} {w' : World} (h : CS w B g m i n w') (hm : m ≤ 6) (hc : m ≤ c) (hg : w.heap.size ≤ g) : SomeSc w.heap.size w' (.slice (some ⟨g, 0, none⟩) m c) := by
  obtain ⟨xs, pvs, _, h1, h2, _, h4, h5, h6, _, _⟩ := h
  refine ⟨xs, ⟨pvs, h2, ?_, h6⟩, by omega, h4⟩
  have e := nRows_length (row := scRow) h2
  have := h5.rows (lo := w.heap.size) (cap := c) (by rw [e]; omega) hg (by rw [e]; omega)
  rw [e, h1] at this
  exact this
set_option maxRecDepth 100000 in
set_option maxHeartbeats 4000000 in
theorem scorers_calls (B N : Nat) (w : World) (hs : St w B N) (hN : N ≤ 3970000) :
    Calls Tryz.prog 7 #[.pointer (some ⟨B, 0, none⟩)] w (Made B (N + 80) (SomeSc w.heap.size) w) := by
  have hBw := hs.lt
  go_enter Tryz.func7, Tryz.ntmps7
  go_wp2_with fail
  refine (rightScorers_calls B N w hs (by omega)).mono ?_
  rintro e w1 ⟨v, ⟨xs, hown, hrl, hrs⟩, rfl, hs1, hg1⟩
  have Hrs := Lib.hid hrs
  clear hrs
  obtain ⟨pvs, hpv, hrow, hpos⟩ := hown
  have hlo : B < w.heap.size := hBw
  rcases hrow.2 with ⟨rfl, hnil⟩ | ⟨g, cap, cur, rfl, hgb, hgc, hle, _⟩
  · have : xs = [] := List.eq_nil_of_length_eq_zero hnil
    subst this
    have hR := (show OwnSc w1 w.heap.size (.slice none 0 0) [] from ⟨pvs, hpv, hrow, hpos⟩).rows (fun _ _ => rfl) (by simp)
    clear hrow hnil hrl
    go_wp2_with fail
    go_ret
    exact ⟨_, ⟨[], hR, by simp, Hrs.out⟩, rfl, hs1.mono (by omega), hg1⟩
  · have hl0 := nRows_length (row := scRow) hpv
    have hR := (show OwnSc w1 w.heap.size (.slice (some ⟨g, 0, none⟩) xs.length cap) xs from ⟨pvs, hpv, hrow, hpos⟩).rows (fun _ _ => rfl) (by omega)
    have HR := Lib.hid hR
    obtain ⟨hat, _⟩ := RowsAt.of_owns (sz := 5) (rows := nRows scRow xs pvs) (by rw [hl0]; exact hrow) (nRows_each (row := scRow) (sz := 5) (fun _ _ => rfl) xs pvs)
    have hne : g ≠ B := by omega
    by_cases hz : xs.length = 0
    · have hz' : xs = [] := List.eq_nil_of_length_eq_zero hz
      subst hz'
      clear hrow hz hrl hat hR
      go_wp2_with fail
      go_ret
      exact ⟨_, ⟨[], HR.out, by simp, Hrs.out⟩, rfl, hs1.mono (by omega), hg1⟩
    · have hpos0 : 0 < xs.length := by omega
      have Hat := Lib.hid hat
      have Hpv := Lib.hid hpv
      have Hpos := Lib.hid hpos
      clear hrow hz hat hgc hR hpv hpos hl0
      obtain ⟨m, hm⟩ : ∃ m, m = xs.length := ⟨_, rfl⟩
      have Hm := Lib.hid hm
      rw [← hm] at hpos0 hrl hle ⊢
      clear hm
      have hpos1 : (0 : Int) < (m : Int) := by omega
      go_wp2_with fail
      refine (flip_calls B _ 15 w1 hs1 (by omega) (by omega) (by omega)).mono ?_
      rintro e w2 ⟨v, ⟨b, rfl⟩, rfl, hs2, hg2⟩
      cases b
      · go_wp2_with fail
        go_ret
        exact ⟨_, ⟨xs, by have h := HR.out; rw [← Hm.out] at h; exact NRows.other h hg2 hBw, by rw [← Hm.out]; omega, Hrs.out⟩, rfl, hs2.mono (by omega), gb_trans hg1 hg2⟩
      · go_wp2_with fail
        refine (next_calls B _ m w2 hs2 (by omega) (by omega) (by omega)).mono ?_
        rintro e w3 ⟨v, ⟨i, rfl, hi⟩, rfl, hs3, hg3⟩
        have him : i < m := by omega
        have hX : CS w B g m i _ w3 := ⟨xs, pvs, xs[i]'(by have := Hm.out; omega), Hm.out.symm, Hpv.out, List.getElem?_eq_getElem _, Hrs.out, Hat.out.lift ((hg3.block g (by have := Hat.out.lt; have := hg2.size; omega) (by intro e; cases e; exact hne rfl)).trans (hg2.block g Hat.out.lt (by intro e; cases e; exact hne rfl))), fun k x a hx ha => ((Hpos.out k x a hx ha).other hg2 hBw).other hg3 hBw, hs3, gb_trans hg1 (gb_trans hg2 hg3)⟩
        obtain ⟨c, hc, c0, -, -, cf⟩ := hX.cells
        have Hc := Lib.hid hc
        clear hs1 hs2 hs3 hg1 hg2 hg3 Hat Hrs Hm Hpv Hpos HR hc
        go_wp2_with fail
        refine (some_calls B _ w3.heap.size _ [c.who, ⟨#[]⟩, P_ann] _ (hX.st.alloc _) (by omega) (strs_new w3 [c.who, ⟨#[]⟩, P_ann] (by simp)) hX.st.lt (by simp)).mono ?_
        rintro e w4 ⟨v, ⟨k, rfl, hk⟩, rfl, hs4, hg4⟩
        have Hk := Lib.hid (show k.size ≤ 1000 by
          simp only [List.mem_cons, List.not_mem_nil, or_false] at hk
          rcases hk with rfl | rfl | rfl
          · exact Hc.out.1
          · decide
          · decide)
        replace hX := (hX.alloc (.cells ([c.who, ⟨#[]⟩, P_ann].map Value.string).toArray 9)).step hs4 hg4 hne hBw
        clear hk hs4 hg4 c0 cf
        go_wp2_with fail
        refine (worth_calls B _ _ hX.st (by omega)).mono ?_
        rintro e w5 ⟨v, ⟨x, y, rfl, hx, hy⟩, rfl, hs5, hg5⟩
        have Hx := Lib.hid hx
        have Hy := Lib.hid hy
        replace hX := hX.step hs5 hg5 hne hBw
        obtain ⟨c', -, c0, c2, c3, cf⟩ := hX.cells
        clear hx hy hs5 hg5 Hc
        unfold frV
        go_wp2_with fail
        go_ret
        have hY := ((hX.who hBw hgb k Hk.out).num hBw hgb x Hx.out).den hBw hgb y Hy.out
        exact ⟨_, hY.made (by omega) hle hgb, rfl, hY.st.mono (by omega), hY.gb⟩
end Go.Proofs.YthlfjfmlmcoihaaGreat
