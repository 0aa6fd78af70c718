/- The tape as a law is handed it. -/
import Derived.Test.YtddnnjblpgfjeaaGreatDoorRows
import Derived.Test.YtddnnjblpgfjeaaGreatDoorMgaa
/- Walks of the stream's functions: what Next and its callers hand out. -/
namespace Go.Proofs.YtddnnjblpgfjeaaGreatDoor
open Go.RowKit

abbrev St (w : World) (B N : Nat) : Prop := Stm w 25 B N
abbrev Dr (B N : Nat) (P : Value → Prop) (w : World) (e : Ending) (w' : World) : Prop := Drawn 25 B N P w e w'

/-- What Below answers. -/
def belowI (x n : Int) : Int := if n < 1 then 0 else x % n
theorem belowI_nonneg (x n : Int) : 0 ≤ belowI x n := by
 unfold belowI; split
 ·omega
 ·exact Int.emod_nonneg _ (by omega)
theorem belowI_lt (x n : Int) (h : 1 ≤ n) : belowI x n < n := by
 unfold belowI; rw [if_neg (by omega)]; exact Int.emod_lt_of_pos _ (by omega)
theorem tmod_facts (x n : Int) (h : 1 ≤ n) : x.tmod n < n ∧ -n < x.tmod n ∧ (x.tmod n < 0 → x.tmod n + n = x % n) ∧ (0 ≤ x.tmod n → x.tmod n = x % n) := by
 have h1 : x.tmod n < n := Int.tmod_lt_of_pos x (by omega)
 have h2 : -n < x.tmod n := by have := Int.lt_tmod_of_pos x (show 0 < n by omega); omega
 have h3 : x.tmod n = x - n * x.tdiv n := Int.tmod_def x n
 refine ⟨h1, h2, fun h4 => ?_, fun h4 => ?_⟩
 ·have e : x = (x.tmod n + n) + n * (x.tdiv n - 1) := by rw [h3, Int.mul_sub]; omega
  have : x % n = (x.tmod n + n) % n := by
   conv => lhs; rw [e]
   rw [Int.add_mul_emod_self_left]
  rw [this, Int.emod_eq_of_lt (by omega) (by omega)]
 ·have e : x = x.tmod n + n * x.tdiv n := by omega
  have : x % n = x.tmod n % n := by
   conv => lhs; rw [e]
   rw [Int.add_mul_emod_self_left]
  rw [this, Int.emod_eq_of_lt h4 h1]

set_option maxHeartbeats 400000 in
theorem below_calls (x n : Int) (w : World) (hn1 : n ≤ 9223372036854775807) :
  Calls Tryz.prog 119 #[.int .i64 x, .int .i64 n] w fun e w' => e = .returned (.int .i64 (belowI x n)) ∧ w = w' := by
 by_cases hn : n < 1
 ·go_enter Tryz.func119, Tryz.ntmps119
  go_wp2
  go_ret
  exact ⟨by simp [belowI, hn], rfl⟩
 ·obtain ⟨h1, h2, h3, h4⟩ := tmod_facts x n (by omega)
  have H3 := Lib.hid h3; have H4 := Lib.hid h4; clear h3 h4; go_enter Tryz.func119, Tryz.ntmps119; go_wp2
  all_goals go_ret
  ·exact ⟨ret_int (by unfold belowI; rw [if_neg (by omega)]; exact H3.out (by assumption)), rfl⟩
  ·exact ⟨ret_int (by unfold belowI; rw [if_neg (by omega)]; exact H4.out (by assumption)), rfl⟩

/-- A number below n, as Next hands it out. -/
def Low (n : Int) (v : Value) : Prop := ∃ r : Nat, v = .int .i64 (r : Int) ∧ (r : Int) < n

theorem low_below (x n : Int) (h : 1 ≤ n) : Low n (.int .i64 (belowI x n)) := by
 have h1 := belowI_nonneg x n
 have h2 := belowI_lt x n h
 exact ⟨(belowI x n).toNat, by rw [Int.toNat_of_nonneg h1], by rw [Int.toNat_of_nonneg h1]; exact h2⟩

theorem next_end {w : World} {B N k : Nat} {lv : Value} (n : Int) (x : Int) (hn : 1 ≤ n) (w' : World) (hB : w.heap[B]? = some (.cells #[lv, .int .i64 (k : Int)] 25 (0, 0))) (hk : k ≤ N)
  (hl : (∃ a c, lv = .slice a 0 c) ∨ ∃ b off len cap, lv = .slice (some ⟨b, off, none⟩) len cap ∧ b < B ∧ len ≤ 140737488355328 ∧ ∀ j, j < len → ∃ x : Int, w.cell? ⟨b, off + j, none⟩ = some (.int .i64 x))
  (hw : ∃ q, w' = (w.setCell ⟨B, 1, none⟩ (.int .i64 ((k : Int) + 1))).drewN q) :
  Dr B (N + 1) (Low n) w (.returned (.int .i64 (belowI x n))) w' := by
 obtain ⟨q, rfl⟩ := hw
 have hg : w.grownBy ((w.setCell ⟨B, 1, none⟩ (.int .i64 ((k : Int) + 1))).drewN q) (some B) := ⟨rfl, rfl, rfl, by show _ ≤ (w.setCell _ _).heap.size; simp, fun j _ hne => Below.heap_setCell w _ _ j (by simpa using hne)⟩
 refine ⟨_, low_below x n hn, rfl, ⟨lv, k + 1, ?_, by omega, ?_⟩, hg⟩
 ·show (w.setCell ⟨B, 1, none⟩ _).heap[B]? = _
  simp [World.setCell, Array.getElem?_modify, hB]
 ·rcases hl with h | ⟨b, off, len, cap, e, hb, hl, hx⟩
  ·exact .inl h
  ·exact .inr ⟨b, off, len, cap, e, hb, hl, fun j hj => by obtain ⟨x, h⟩ := hx j hj; exact ⟨x, gb_cell hg h (by omega)⟩⟩

set_option maxHeartbeats 400000 in
theorem next_calls (B N : Nat) (n : Int) (w : World) (hs : St w B N) (hN : N ≤ 4000000) (hn : 1 ≤ n) (hn1 : n ≤ 9223372036854775807) :
  Calls Tryz.prog 52 #[.pointer (some ⟨B, 0, none⟩), .int .i64 n] w (Dr B (N + 1) (Low n) w) := by
 obtain ⟨lv, k, hB, hk, hl⟩ := hs
 have c0 : w.cell? ⟨B, 0, none⟩ = some lv := by simp [World.cell?, hB]
 have c1 : w.cell? ⟨B, 1, none⟩ = some (.int .i64 (k : Int)) := by simp [World.cell?, hB]
 have f1 : w.frozen? ⟨B, 1, none⟩ = false := by simp [World.frozen?, hB]
 have Hend := fun x w' => Lib.hid (next_end (N := N) n x hn w' hB hk hl)
 rcases hl with ⟨la, lc, rfl⟩ | ⟨b, off, len, cap, rfl, hb, hlen, hc⟩
 ·clear hB
  go_enter Tryz.func52, Tryz.ntmps52; go_wp2_with fail
  refine (below_calls _ _ _ hn1).mono ?_; rintro e w' ⟨rfl, rfl⟩; go_wp2_with fail
  go_ret
  exact (Hend _ _).out ⟨0, rfl⟩
 ·clear hB
  by_cases hz : len = 0
  ·subst hz
   clear hc; go_enter Tryz.func52, Tryz.ntmps52; go_wp2_with fail
   refine (below_calls _ _ _ hn1).mono ?_; rintro e w' ⟨rfl, rfl⟩; go_wp2_with fail
   go_ret
   exact (Hend _ _).out ⟨0, rfl⟩
  ·have hne : ((len : Int) == 0) = false := by rw [beq_eq_false_iff_ne]; omega
   obtain ⟨x, hx⟩ := hc (k % len) (Nat.mod_lt _ (by omega))
   clear hc; have hlt : k % len < len := Nat.mod_lt _ (by omega)
   have hq : k / len ≤ k := Nat.div_le_self _ _
   have hd : (k / len) * (k % len) ≤ k := by
    have h1 := Nat.div_mul_le_self k len; have h2 : (k / len) * (k % len) ≤ (k / len) * len := Nat.mul_le_mul_left _ (by omega)
    omega
   go_enter Tryz.func52, Tryz.ntmps52; go_wp2_with fail
   go_quiet (fail)
   go_wp2_with fail
   go_quiet (fail)
   go_wp2_with fail
   refine (below_calls _ _ _ (by omega)).mono ?_
   rintro e w' ⟨rfl, rfl⟩; go_wp2_with fail
   refine (below_calls _ _ _ hn1).mono ?_; rintro e w' ⟨rfl, rfl⟩; go_wp2_with fail
   go_ret
   exact (Hend _ _).out ⟨_, rfl⟩

def IsBool (v : Value) : Prop := ∃ b : Bool, v = .bool b
def InRange (low high : Int) (v : Value) : Prop := ∃ r : Int, v = .int .i64 r ∧ low ≤ r ∧ r ≤ high
def OneOf (ks : List ByteArray) (v : Value) : Prop := ∃ k, v = .string k ∧ k ∈ ks

set_option maxHeartbeats 400000 in
theorem flip_calls (B N : Nat) (n : Int) (w : World) (hs : St w B N) (hN : N ≤ 4000000) (hn : 1 ≤ n) (hn1 : n ≤ 9223372036854775807) :
  Calls Tryz.prog 51 #[.pointer (some ⟨B, 0, none⟩), .int .i64 n] w (Dr B (N + 1) IsBool w) := by
 go_enter Tryz.func51, Tryz.ntmps51
 go_wp2_with fail
 refine (next_calls B N n w hs hN hn hn1).mono ?_
 rintro e w' ⟨v, ⟨r, rfl, _⟩, rfl, hs', hg⟩
 go_wp2_with fail
 go_ret
 exact ⟨_, ⟨_, rfl⟩, rfl, hs', hg⟩
set_option maxHeartbeats 400000 in
theorem range_calls (B N : Nat) (low high : Int) (w : World) (hs : St w B N) (hN : N ≤ 4000000) (h : low ≤ high) (h0 : -2199023255552 ≤ low) (h1 : high ≤ 2199023255552) :
  Calls Tryz.prog 49 #[.pointer (some ⟨B, 0, none⟩), .int .i64 low, .int .i64 high] w (Dr B (N + 1) (InRange low high) w) := by
 go_enter Tryz.func49, Tryz.ntmps49
 go_wp2_with fail
 refine (next_calls B N _ w hs hN (by omega) (by omega)).mono ?_
 rintro e w' ⟨v, ⟨r, rfl, hr⟩, rfl, hs', hg⟩
 go_wp2_with fail
 go_ret
 exact ⟨_, ⟨low + r, rfl, by omega, by omega⟩, rfl, hs', hg⟩
set_option maxHeartbeats 400000 in
theorem some_calls (B N lo : Nat) (v : Value) (ks : List ByteArray) (w : World) (hs : St w B N) (hN : N ≤ 4000000) (hv : Strs w lo v ks) (hB : B < lo) (hk : ks ≠ []) :
  Calls Tryz.prog 41 #[.pointer (some ⟨B, 0, none⟩), v] w (Dr B (N + 1) (OneOf ks) w) := by
 rcases strs_at hv with ⟨_, h⟩ | ⟨g, off, cap, rfl, hlo, hg, hn, hc⟩
 ·exact absurd h hk
 ·have hpos : 0 < ks.length := List.length_pos_iff.2 hk
  clear hv; go_enter Tryz.func41, Tryz.ntmps41; go_wp2_with fail
  refine (next_calls B N _ w hs hN (by omega) (by omega)).mono ?_
  rintro e w' ⟨v, ⟨r, rfl, hr⟩, rfl, hs', hg'⟩; have hr' : r < ks.length := by omega
  have hx : ks[r]? = some ks[r] := List.getElem?_eq_getElem hr'
  have hc' := gb_cell hg' (hc r _ hx) (by omega)
  have hmem : ks[r] ∈ ks := List.getElem_mem hr'
  generalize ks[r] = k at hc' hmem
  clear hc hx; go_wp2_with fail
  go_ret
  exact ⟨_, ⟨k, rfl, hmem⟩, rfl, hs', hg'⟩
/-- A slice of ints. -/
def Ints (w : World) (lo : Nat) (v : Value) (xs : List Int) : Prop := Rows w 3 lo 1 v (xs.map fun x => [.int .i64 x])
theorem ints_new (w : World) (xs : List Int) (h : xs.length ≤ 1000000) :
  Ints (w.alloc (.cells (xs.map (Value.int .i64)).toArray 3)) w.heap.size (.slice (some ⟨w.heap.size, 0, none⟩) xs.length xs.length) xs := by
 refine ⟨by simpa using h, by simp, .inr ⟨w.heap.size, 0, xs.length, _, (0, 0), by simp, ⟨Nat.le_refl _, by simp⟩, heap_alloc_new w _, fun i j u hu => ?_⟩⟩
 have hj : (xs.map fun k => [Value.int .i64 k])[i]?.getD [] = (xs[i]?.map fun k => [Value.int .i64 k]).getD [] := by simp
 rw [hj] at hu
 cases hk : xs[i]? with
 | none => simp [hk] at hu
 | some k =>
  rw [hk] at hu
  simp only [Option.map_some, Option.getD_some] at hu
  match j, hu with
  | 0, hu =>
   have : u = .int .i64 k := by simpa using hu.symm
   subst this; simp [hk]
theorem ints_at {w : World} {lo : Nat} {v : Value} {ks : List Int} (h : Ints w lo v ks) :
  (v = .slice none 0 0 ∧ ks = []) ∨ ∃ g off cap, v = .slice (some ⟨g, off, none⟩) ks.length cap ∧ lo ≤ g ∧ g < w.heap.size ∧ ks.length ≤ 1000000 ∧
   ∀ (i : Nat) (k : Int), ks[i]? = some k → w.cell? ⟨g, off + i, none⟩ = some (.int .i64 k) := by
 rcases rows_at h with ⟨e1, e2⟩ | ⟨g, off, cap, e1, e2, e3, hc⟩
 ·exact .inl ⟨e1, by simpa using e2⟩
 ·refine .inr ⟨g, off, cap, by simpa using e1, e2, e3, by simpa using h.small, fun i k hk => ?_⟩
  have := hc i 0 (.int .i64 k) (by simp [hk])
  simpa using this
def OneInt (xs : List Int) (v : Value) : Prop := ∃ x, v = .int .i64 x ∧ x ∈ xs
set_option maxHeartbeats 400000 in
theorem pick_calls (B N lo : Nat) (v : Value) (ks : List Int) (w : World) (hs : St w B N) (hN : N ≤ 4000000) (hv : Ints w lo v ks) (hB : B < lo) (hk : ks ≠ []) :
  Calls Tryz.prog 25 #[.pointer (some ⟨B, 0, none⟩), v] w (Dr B (N + 1) (OneInt ks) w) := by
 rcases ints_at hv with ⟨_, h⟩ | ⟨g, off, cap, rfl, hlo, hg, hn, hc⟩
 ·exact absurd h hk
 ·have hpos : 0 < ks.length := List.length_pos_iff.2 hk
  clear hv; go_enter Tryz.func25, Tryz.ntmps25; go_wp2_with fail
  refine (next_calls B N _ w hs hN (by omega) (by omega)).mono ?_
  rintro e w' ⟨v, ⟨r, rfl, hr⟩, rfl, hs', hg'⟩; have hr' : r < ks.length := by omega
  have hx : ks[r]? = some ks[r] := List.getElem?_eq_getElem hr'
  have hc' := gb_cell hg' (hc r _ hx) (by omega)
  have hmem : ks[r] ∈ ks := List.getElem_mem hr'
  generalize ks[r] = k at hc' hmem
  clear hc hx; go_wp2_with fail
  go_ret
  exact ⟨_, ⟨k, rfl, hmem⟩, rfl, hs', hg'⟩
set_option maxHeartbeats 400000 in
theorem odd_calls (B N : Nat) (low high : Int) (w : World) (hs : St w B N) (hN : N ≤ 3999000) (h : low ≤ high) (h0 : -1000000 ≤ low) (h1 : high ≤ 1000000) :
  Calls Tryz.prog 54 #[.pointer (some ⟨B, 0, none⟩), .int .i64 low, .int .i64 high] w (Dr B (N + 2) (InRange (-1099511627776) 1099511627776) w) := by
 go_enter Tryz.func54, Tryz.ntmps54
 go_wp2_with fail
 refine (flip_calls B N 12 w hs (by omega) (by omega) (by omega)).mono ?_
 rintro e w1 ⟨v, ⟨b, rfl⟩, rfl, hs1, hg1⟩
 cases b
 ·go_wp2_with fail
  refine (range_calls B (N + 1) low high w1 hs1 (by omega) h (by omega) (by omega)).mono ?_
  rintro e w2 ⟨v, ⟨r, rfl, hr0, hr1⟩, rfl, hs2, hg2⟩; go_wp2_with fail
  go_ret
  exact ⟨_, ⟨r, rfl, by omega, by omega⟩, rfl, hs2, gb_trans hg1 hg2⟩
 ·go_wp2_with fail
  have hi := ints_new w1 [low - 1, high + 1, low, high, -1099511627776, 1099511627776] (by simp)
  refine (pick_calls B (N + 1) w1.heap.size _ [low - 1, high + 1, low, high, -1099511627776, 1099511627776] _ (hs1.alloc _) (by omega) hi hs1.lt (by simp)).mono ?_
  rintro e w2 ⟨v, ⟨r, rfl, hr⟩, rfl, hs2, hg2⟩
  have hr' : -1099511627776 ≤ r ∧ r ≤ 1099511627776 := by
   simp only [List.mem_cons, List.not_mem_nil, or_false] at hr
   omega
  clear hr hi; go_wp2_with fail
  go_ret
  exact ⟨_, ⟨r, rfl, hr'.1, hr'.2⟩, rfl, hs2, gb_trans hg1 (gb_trans (gb_alloc w1 _ _) hg2)⟩
end Go.Proofs.YtddnnjblpgfjeaaGreatDoor
namespace Go.Proofs.YtddnnjblpgfjeaaGreatDoor
open Go.RowKit

/-- The tape as the law is handed it. -/
def Tape (w : World) (lv : Value) : Prop := (∃ a c, lv = .slice a 0 c) ∨ ∃ b off len cap, lv = .slice (some ⟨b, off, none⟩) len cap ∧ b < w.heap.size ∧ len ≤ 140737488355328 ∧ ∀ j, j < len → ∃ x : Int, w.cell? ⟨b, off + j, none⟩ = some (.int .i64 x)
theorem Tape.stm {w : World} {lv : Value} (h : Tape w lv) (T : Nat) : Stm (w.alloc (.cells #[lv, .int .i64 0] T)) T w.heap.size 0 := by
 refine ⟨lv, 0, heap_alloc_new w _, Nat.le_refl _, ?_⟩
 rcases h with h | ⟨b, off, len, cap, e, hb, hl, hx⟩
 ·exact .inl h
 ·exact .inr ⟨b, off, len, cap, e, hb, hl, fun j hj => by obtain ⟨x, hx⟩ := hx j hj; exact ⟨x, below_cell (below_alloc w _) hx⟩⟩
theorem Tape.shape {w : World} {lv : Value} (h : Tape w lv) : ∃ a n c, lv = .slice a n c := by
 rcases h with ⟨a, c, h⟩ | ⟨b, off, len, cap, e, _⟩
 ·exact ⟨_, _, _, h⟩
 ·exact ⟨_, _, _, e⟩
end Go.Proofs.YtddnnjblpgfjeaaGreatDoor
