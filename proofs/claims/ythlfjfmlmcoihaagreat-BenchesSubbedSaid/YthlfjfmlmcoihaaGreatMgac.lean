/- Walks of what makes players and stints out of the stream. -/
import Derived.Test.YthlfjfmlmcoihaaGreatRows
import Derived.Test.YthlfjfmlmcoihaaGreatMgaa
import Derived.Test.YthlfjfmlmcoihaaGreatShelf
import Derived.Test.YthlfjfmlmcoihaaGreatMgab
import Derived.ProofKit
import Derived.OpenShut
import Derived.Deep.DeepHandedRow
import Derived.PinnedBridge
import Derived.Lay
import Derived.LaidOnce
import Derived.SevenTiedAt
import Derived.SizedLaws
import Derived.Laws.OwnMore
import Derived.Deep.Onto
/- Walks of the stream's functions: what Next and its callers hand out. -/
namespace Go.Proofs.YthlfjfmlmcoihaaGreat
open Go.RowKit

abbrev St (w : World) (B N : Nat) : Prop := Stm w 25 B N
abbrev Dr (B N : Nat) (P : Value → Prop) (w : World) (e : Ending) (w' : World) : Prop := Drawn 25 B N P w e w'

/-- What Below answers. -/
def belowI (x n : Int) : Int := if n < 1 then 0 else x % n
theorem belowI_nonneg (x n : Int) : 0 ≤ belowI x n := by
  unfold belowI; split
  · omega
  · exact Int.emod_nonneg _ (by omega)
theorem belowI_lt (x n : Int) (h : 1 ≤ n) : belowI x n < n := by
  unfold belowI; rw [if_neg (by omega)]; exact Int.emod_lt_of_pos _ (by omega)
theorem tmod_facts (x n : Int) (h : 1 ≤ n) : x.tmod n < n ∧ -n < x.tmod n ∧ (x.tmod n < 0 → x.tmod n + n = x % n) ∧ (0 ≤ x.tmod n → x.tmod n = x % n) := by
  have h1 : x.tmod n < n := Int.tmod_lt_of_pos x (by omega)
  have h2 : -n < x.tmod n := by have := Int.lt_tmod_of_pos x (show 0 < n by omega); omega
  have h3 : x.tmod n = x - n * x.tdiv n := Int.tmod_def x n
  refine ⟨h1, h2, fun h4 => ?_, fun h4 => ?_⟩
  · have e : x = (x.tmod n + n) + n * (x.tdiv n - 1) := by rw [h3, Int.mul_sub]; omega
    have : x % n = (x.tmod n + n) % n := by
      conv => lhs; rw [e]
      rw [Int.add_mul_emod_self_left]
    rw [this, Int.emod_eq_of_lt (by omega) (by omega)]
  · have e : x = x.tmod n + n * x.tdiv n := by omega
    have : x % n = x.tmod n % n := by
      conv => lhs; rw [e]
      rw [Int.add_mul_emod_self_left]
    rw [this, Int.emod_eq_of_lt h4 h1]

set_option maxHeartbeats 400000 in
theorem below_calls (x n : Int) (w : World) (hn1 : n ≤ 9223372036854775807) :
    Calls Tryz.prog 99 #[.int .i64 x, .int .i64 n] w fun e w' => e = .returned (.int .i64 (belowI x n)) ∧ w = w' := by
  by_cases hn : n < 1
  · go_enter Tryz.func99, Tryz.ntmps99
    go_wp2
    go_ret
    exact ⟨by simp [belowI, hn], rfl⟩
  · obtain ⟨h1, h2, h3, h4⟩ := tmod_facts x n (by omega)
    have H3 := Lib.hid h3
    have H4 := Lib.hid h4
    clear h3 h4
    go_enter Tryz.func99, Tryz.ntmps99
    go_wp2
    all_goals go_ret
    · exact ⟨ret_int (by unfold belowI; rw [if_neg (by omega)]; exact H3.out (by assumption)), rfl⟩
    · exact ⟨ret_int (by unfold belowI; rw [if_neg (by omega)]; exact H4.out (by assumption)), rfl⟩

/-- A number below n, as Next hands it out. -/
def Low (n : Int) (v : Value) : Prop := ∃ r : Nat, v = .int .i64 (r : Int) ∧ (r : Int) < n

theorem low_below (x n : Int) (h : 1 ≤ n) : Low n (.int .i64 (belowI x n)) := by
  have h1 := belowI_nonneg x n
  have h2 := belowI_lt x n h
  exact ⟨(belowI x n).toNat, by rw [Int.toNat_of_nonneg h1], by rw [Int.toNat_of_nonneg h1]; exact h2⟩

theorem next_end {w : World} {B N k : Nat} {lv : Value} (n : Int) (x : Int) (hn : 1 ≤ n) (w' : World) (hB : w.heap[B]? = some (.cells #[lv, .int .i64 (k : Int)] 25 (0, 0))) (hk : k ≤ N)
    (hl : (∃ a c, lv = .slice a 0 c) ∨ ∃ b off len cap, lv = .slice (some ⟨b, off, none⟩) len cap ∧ b < B ∧ len ≤ 140737488355328 ∧ ∀ j, j < len → ∃ x : Int, w.cell? ⟨b, off + j, none⟩ = some (.int .i64 x))
    (hw : ∃ q, w' = (w.setCell ⟨B, 1, none⟩ (.int .i64 ((k : Int) + 1))).drewN q) :
    Dr B (N + 1) (Low n) w (.returned (.int .i64 (belowI x n))) w' := by
  obtain ⟨q, rfl⟩ := hw
  have hg : w.grownBy ((w.setCell ⟨B, 1, none⟩ (.int .i64 ((k : Int) + 1))).drewN q) (some B) := ⟨rfl, rfl, rfl, by show _ ≤ (w.setCell _ _).heap.size; simp, fun j _ hne => Below.heap_setCell w _ _ j (by simpa using hne)⟩
  refine ⟨_, low_below x n hn, rfl, ⟨lv, k + 1, ?_, by omega, ?_⟩, hg⟩
  · show (w.setCell ⟨B, 1, none⟩ _).heap[B]? = _
    simp [World.setCell, Array.getElem?_modify, hB]
  · rcases hl with h | ⟨b, off, len, cap, e, hb, hl, hx⟩
    · exact .inl h
    · exact .inr ⟨b, off, len, cap, e, hb, hl, fun j hj => by obtain ⟨x, h⟩ := hx j hj; exact ⟨x, gb_cell hg h (by omega)⟩⟩

set_option maxHeartbeats 400000 in
theorem next_calls (B N : Nat) (n : Int) (w : World) (hs : St w B N) (hN : N ≤ 4000000) (hn : 1 ≤ n) (hn1 : n ≤ 9223372036854775807) :
    Calls Tryz.prog 45 #[.pointer (some ⟨B, 0, none⟩), .int .i64 n] w (Dr B (N + 1) (Low n) w) := by
  obtain ⟨lv, k, hB, hk, hl⟩ := hs
  have c0 : w.cell? ⟨B, 0, none⟩ = some lv := by simp [World.cell?, hB]
  have c1 : w.cell? ⟨B, 1, none⟩ = some (.int .i64 (k : Int)) := by simp [World.cell?, hB]
  have f1 : w.frozen? ⟨B, 1, none⟩ = false := by simp [World.frozen?, hB]
  have Hend := fun x w' => Lib.hid (next_end (N := N) n x hn w' hB hk hl)
  rcases hl with ⟨la, lc, rfl⟩ | ⟨b, off, len, cap, rfl, hb, hlen, hc⟩
  · clear hB
    go_enter Tryz.func45, Tryz.ntmps45
    go_wp2_with fail
    refine (below_calls _ _ _ hn1).mono ?_
    rintro e w' ⟨rfl, rfl⟩
    go_wp2_with fail
    go_ret
    exact (Hend _ _).out ⟨0, rfl⟩
  · clear hB
    by_cases hz : len = 0
    · subst hz
      clear hc
      go_enter Tryz.func45, Tryz.ntmps45
      go_wp2_with fail
      refine (below_calls _ _ _ hn1).mono ?_
      rintro e w' ⟨rfl, rfl⟩
      go_wp2_with fail
      go_ret
      exact (Hend _ _).out ⟨0, rfl⟩
    · have hne : ((len : Int) == 0) = false := by rw [beq_eq_false_iff_ne]; omega
      obtain ⟨x, hx⟩ := hc (k % len) (Nat.mod_lt _ (by omega))
      clear hc
      have hlt : k % len < len := Nat.mod_lt _ (by omega)
      have hq : k / len ≤ k := Nat.div_le_self _ _
      have hd : (k / len) * (k % len) ≤ k := by
        have h1 := Nat.div_mul_le_self k len
        have h2 : (k / len) * (k % len) ≤ (k / len) * len := Nat.mul_le_mul_left _ (by omega)
        omega
      go_enter Tryz.func45, Tryz.ntmps45
      go_wp2_with fail
      go_quiet (fail)
      go_wp2_with fail
      go_quiet (fail)
      go_wp2_with fail
      refine (below_calls _ _ _ (by omega)).mono ?_
      rintro e w' ⟨rfl, rfl⟩
      go_wp2_with fail
      refine (below_calls _ _ _ hn1).mono ?_
      rintro e w' ⟨rfl, rfl⟩
      go_wp2_with fail
      go_ret
      exact (Hend _ _).out ⟨_, rfl⟩

def IsBool (v : Value) : Prop := ∃ b : Bool, v = .bool b
def InRange (low high : Int) (v : Value) : Prop := ∃ r : Int, v = .int .i64 r ∧ low ≤ r ∧ r ≤ high
def OneOf (ks : List ByteArray) (v : Value) : Prop := ∃ k, v = .string k ∧ k ∈ ks

set_option maxHeartbeats 400000 in
theorem flip_calls (B N : Nat) (n : Int) (w : World) (hs : St w B N) (hN : N ≤ 4000000) (hn : 1 ≤ n) (hn1 : n ≤ 9223372036854775807) :
    Calls Tryz.prog 37 #[.pointer (some ⟨B, 0, none⟩), .int .i64 n] w (Dr B (N + 1) IsBool w) := by
  go_enter Tryz.func37, Tryz.ntmps37
  go_wp2_with fail
  refine (next_calls B N n w hs hN hn hn1).mono ?_
  rintro e w' ⟨v, ⟨r, rfl, _⟩, rfl, hs', hg⟩
  go_wp2_with fail
  go_ret
  exact ⟨_, ⟨_, rfl⟩, rfl, hs', hg⟩
set_option maxHeartbeats 400000 in
theorem range_calls (B N : Nat) (low high : Int) (w : World) (hs : St w B N) (hN : N ≤ 4000000) (h : low ≤ high) (h0 : -2199023255552 ≤ low) (h1 : high ≤ 2199023255552) :
    Calls Tryz.prog 97 #[.pointer (some ⟨B, 0, none⟩), .int .i64 low, .int .i64 high] w (Dr B (N + 1) (InRange low high) w) := by
  go_enter Tryz.func97, Tryz.ntmps97
  go_wp2_with fail
  refine (next_calls B N _ w hs hN (by omega) (by omega)).mono ?_
  rintro e w' ⟨v, ⟨r, rfl, hr⟩, rfl, hs', hg⟩
  go_wp2_with fail
  go_ret
  exact ⟨_, ⟨low + r, rfl, by omega, by omega⟩, rfl, hs', hg⟩
set_option maxHeartbeats 400000 in
theorem some_calls (B N lo : Nat) (v : Value) (ks : List ByteArray) (w : World) (hs : St w B N) (hN : N ≤ 4000000) (hv : Strs w lo v ks) (hB : B < lo) (hk : ks ≠ []) :
    Calls Tryz.prog 9 #[.pointer (some ⟨B, 0, none⟩), v] w (Dr B (N + 1) (OneOf ks) w) := by
  rcases strs_at hv with ⟨_, h⟩ | ⟨g, off, cap, rfl, hlo, hg, hn, hc⟩
  · exact absurd h hk
  · have hpos : 0 < ks.length := List.length_pos_iff.2 hk
    clear hv
    go_enter Tryz.func9, Tryz.ntmps9
    go_wp2_with fail
    refine (next_calls B N _ w hs hN (by omega) (by omega)).mono ?_
    rintro e w' ⟨v, ⟨r, rfl, hr⟩, rfl, hs', hg'⟩
    have hr' : r < ks.length := by omega
    have hx : ks[r]? = some ks[r] := List.getElem?_eq_getElem hr'
    have hc' := gb_cell hg' (hc r _ hx) (by omega)
    have hmem : ks[r] ∈ ks := List.getElem_mem hr'
    generalize ks[r] = k at hc' hmem
    clear hc hx
    go_wp2_with fail
    go_ret
    exact ⟨_, ⟨k, rfl, hmem⟩, rfl, hs', hg'⟩
/-- A slice of ints. -/
def Ints (w : World) (lo : Nat) (v : Value) (xs : List Int) : Prop := Rows w 3 lo 1 v (xs.map fun x => [.int .i64 x])
theorem ints_new (w : World) (xs : List Int) (h : xs.length ≤ 1000000) :
    Ints (w.alloc (.cells (xs.map (Value.int .i64)).toArray 3)) w.heap.size (.slice (some ⟨w.heap.size, 0, none⟩) xs.length xs.length) xs := by
  refine ⟨by simpa using h, by simp, .inr ⟨w.heap.size, 0, xs.length, _, (0, 0), by simp, ⟨Nat.le_refl _, by simp⟩, heap_alloc_new w _, fun i j u hu => ?_⟩⟩
  have hj : (xs.map fun k => [Value.int .i64 k])[i]?.getD [] = (xs[i]?.map fun k => [Value.int .i64 k]).getD [] := by simp
  rw [hj] at hu
  cases hk : xs[i]? with
  | none => simp [hk] at hu
  | some k =>
    rw [hk] at hu
    simp only [Option.map_some, Option.getD_some] at hu
    match j, hu with
    | 0, hu =>
      have : u = .int .i64 k := by simpa using hu.symm
      subst this
      simp [hk]
theorem ints_at {w : World} {lo : Nat} {v : Value} {ks : List Int} (h : Ints w lo v ks) :
    (v = .slice none 0 0 ∧ ks = []) ∨ ∃ g off cap, v = .slice (some ⟨g, off, none⟩) ks.length cap ∧ lo ≤ g ∧ g < w.heap.size ∧ ks.length ≤ 1000000 ∧
      ∀ (i : Nat) (k : Int), ks[i]? = some k → w.cell? ⟨g, off + i, none⟩ = some (.int .i64 k) := by
  rcases rows_at h with ⟨e1, e2⟩ | ⟨g, off, cap, e1, e2, e3, hc⟩
  · exact .inl ⟨e1, by simpa using e2⟩
  · refine .inr ⟨g, off, cap, by simpa using e1, e2, e3, by simpa using h.small, fun i k hk => ?_⟩
    have := hc i 0 (.int .i64 k) (by simp [hk])
    simpa using this
def OneInt (xs : List Int) (v : Value) : Prop := ∃ x, v = .int .i64 x ∧ x ∈ xs
set_option maxHeartbeats 400000 in
theorem pick_calls (B N lo : Nat) (v : Value) (ks : List Int) (w : World) (hs : St w B N) (hN : N ≤ 4000000) (hv : Ints w lo v ks) (hB : B < lo) (hk : ks ≠ []) :
    Calls Tryz.prog 100 #[.pointer (some ⟨B, 0, none⟩), v] w (Dr B (N + 1) (OneInt ks) w) := by
  rcases ints_at hv with ⟨_, h⟩ | ⟨g, off, cap, rfl, hlo, hg, hn, hc⟩
  · exact absurd h hk
  · have hpos : 0 < ks.length := List.length_pos_iff.2 hk
    clear hv
    go_enter Tryz.func100, Tryz.ntmps100
    go_wp2_with fail
    refine (next_calls B N _ w hs hN (by omega) (by omega)).mono ?_
    rintro e w' ⟨v, ⟨r, rfl, hr⟩, rfl, hs', hg'⟩
    have hr' : r < ks.length := by omega
    have hx : ks[r]? = some ks[r] := List.getElem?_eq_getElem hr'
    have hc' := gb_cell hg' (hc r _ hx) (by omega)
    have hmem : ks[r] ∈ ks := List.getElem_mem hr'
    generalize ks[r] = k at hc' hmem
    clear hc hx
    go_wp2_with fail
    go_ret
    exact ⟨_, ⟨k, rfl, hmem⟩, rfl, hs', hg'⟩
/-- Behind a new block: the answer is one of the world before it. -/
theorem drawn_alloc {T B N : Nat} {P : Value → Prop} {w : World} {o : Obj} {e : Ending} {w' : World} (h : Drawn T B N P (w.alloc o) e w') : Drawn T B N P w e w' := by
  obtain ⟨v, hp, he, hs, hg⟩ := h
  exact ⟨v, hp, he, hs, gb_trans (gb_alloc w o _) hg⟩
end Go.Proofs.YthlfjfmlmcoihaaGreat
/- The tape as a law is handed it. -/
namespace Go.Proofs.YthlfjfmlmcoihaaGreat
open Go.RowKit

/-- The tape as the law is handed it. -/
def Tape (w : World) (lv : Value) : Prop := (∃ a c, lv = .slice a 0 c) ∨ ∃ b off len cap, lv = .slice (some ⟨b, off, none⟩) len cap ∧ b < w.heap.size ∧ len ≤ 140737488355328 ∧ ∀ j, j < len → ∃ x : Int, w.cell? ⟨b, off + j, none⟩ = some (.int .i64 x)
theorem Tape.stm {w : World} {lv : Value} (h : Tape w lv) (T : Nat) : Stm (w.alloc (.cells #[lv, .int .i64 0] T)) T w.heap.size 0 := by
  refine ⟨lv, 0, heap_alloc_new w _, Nat.le_refl _, ?_⟩
  rcases h with h | ⟨b, off, len, cap, e, hb, hl, hx⟩
  · exact .inl h
  · exact .inr ⟨b, off, len, cap, e, hb, hl, fun j hj => by obtain ⟨x, hx⟩ := hx j hj; exact ⟨x, below_cell (below_alloc w _) hx⟩⟩
theorem Tape.shape {w : World} {lv : Value} (h : Tape w lv) : ∃ a n c, lv = .slice a n c := by
  rcases h with ⟨a, c, h⟩ | ⟨b, off, len, cap, e, _⟩
  · exact ⟨_, _, _, h⟩
  · exact ⟨_, _, _, e⟩
end Go.Proofs.YthlfjfmlmcoihaaGreat
/- Walks of package check: numbers and keys. -/
namespace Go.Proofs.YthlfjfmlmcoihaaGreat
open Go.RowKit

def smallB (x : Int) : Bool := decide (97 ≤ x) && decide (x ≤ 122)
def digitB (x : Int) : Bool := decide (48 ≤ x) && decide (x ≤ 57)
def betwB (n low high : Int) : Bool := decide (low ≤ n) && decide (n ≤ high)
/-- The error unless something is right. -/
def unlessE (b : Bool) (e : Int) : Int := if b then 0 else e
/-- The first error of some. -/
def firstE : List Int → Int
  | [] => 0
  | e :: es => if e = 0 then firstE es else e

set_option maxRecDepth 100000 in
set_option maxHeartbeats 400000 in
theorem small_calls (x : Int) (w : World) :
    Calls Tryz.prog 123 #[.int .u8 x] w fun e w' => e = .returned (.bool (smallB x)) ∧ w = w' := by
  by_cases h1 : 97 ≤ x
  · by_cases h2 : x ≤ 122
    · go_enter Tryz.func123, Tryz.ntmps123
      go_wp2
      go_ret
      exact ⟨ret_bool (by simp [smallB, h1, h2]), rfl⟩
    · go_enter Tryz.func123, Tryz.ntmps123
      go_wp2
      go_ret
      exact ⟨ret_bool (by simp [smallB, h1, h2]), rfl⟩
  · go_enter Tryz.func123, Tryz.ntmps123
    go_wp2
    go_ret
    exact ⟨ret_bool (by simp [smallB]; omega), rfl⟩
set_option maxRecDepth 100000 in
set_option maxHeartbeats 400000 in
theorem digit_calls (x : Int) (w : World) :
    Calls Tryz.prog 124 #[.int .u8 x] w fun e w' => e = .returned (.bool (digitB x)) ∧ w = w' := by
  by_cases h1 : 48 ≤ x
  · by_cases h2 : x ≤ 57
    · go_enter Tryz.func124, Tryz.ntmps124
      go_wp2
      go_ret
      exact ⟨ret_bool (by simp [digitB, h1, h2]), rfl⟩
    · go_enter Tryz.func124, Tryz.ntmps124
      go_wp2
      go_ret
      exact ⟨ret_bool (by simp [digitB, h1, h2]), rfl⟩
  · go_enter Tryz.func124, Tryz.ntmps124
    go_wp2
    go_ret
    exact ⟨ret_bool (by simp [digitB]; omega), rfl⟩
set_option maxRecDepth 100000 in
set_option maxHeartbeats 400000 in
theorem between_calls (n low high : Int) (w : World) :
    Calls Tryz.prog 127 #[.int .i64 n, .int .i64 low, .int .i64 high] w fun e w' => e = .returned (.bool (betwB n low high)) ∧ w = w' := by
  by_cases h1 : low ≤ n
  · by_cases h2 : n ≤ high
    · go_enter Tryz.func127, Tryz.ntmps127
      go_wp2
      go_ret
      exact ⟨ret_bool (by simp [betwB, h1, h2]), rfl⟩
    · go_enter Tryz.func127, Tryz.ntmps127
      go_wp2
      go_ret
      exact ⟨ret_bool (by simp [betwB, h1, h2]), rfl⟩
  · go_enter Tryz.func127, Tryz.ntmps127
    go_wp2
    go_ret
    exact ⟨ret_bool (by simp [betwB]; omega), rfl⟩
set_option maxHeartbeats 400000 in
theorem week_calls (n : Int) (w : World) :
    Calls Tryz.prog 148 #[.int .i64 n] w fun e w' => e = .returned (.bool (betwB n 1 60)) ∧ w = w' := by
  go_enter Tryz.func148, Tryz.ntmps148
  go_wp2_with fail
  refine (between_calls n 1 60 w).mono ?_
  rintro e w' ⟨rfl, rfl⟩
  go_wp2_with fail
  go_ret
  exact ⟨rfl, rfl⟩
set_option maxHeartbeats 400000 in
theorem unless_calls (b : Bool) (x : Int) (w : World) :
    Calls Tryz.prog 54 #[.bool b, .int .i64 x] w fun e w' => e = .returned (.int .i64 (unlessE b x)) ∧ w = w' := by
  cases b
  · go_enter Tryz.func54, Tryz.ntmps54
    go_wp2
    go_ret
    exact ⟨rfl, rfl⟩
  · go_enter Tryz.func54, Tryz.ntmps54
    go_wp2
    go_ret
    exact ⟨rfl, rfl⟩
theorem strCompare_calls (a b : ByteArray) (w : World) :
    Calls Tryz.prog 105 #[.string a, .string b] w fun e w' => e = .returned (.int .i64 (Lib.compareBytes a.data.toList b.data.toList)) ∧ w = w' :=
  (Tryz.strings_Compare a b w).mono fun _ _ ⟨h1, h2⟩ => ⟨h1, h2.symm⟩

/-- May a byte stand in a key? -/
def okC (x : Int) : Bool := smallB x || digitB x || x == 45 || x == 95
/-- The byte at a place, as a number. -/
def byteAt (s : ByteArray) (i : Nat) : Int := if h : i < s.size then (s[i].toNat : Int) else 0
def keyB (s : ByteArray) : Bool := decide (1 ≤ s.size) && decide (s.size ≤ 40) && smallB (byteAt s 0) && (List.range s.size).all fun i => okC (byteAt s i)

theorem empty_of (s : ByteArray) : s.toList.isEmpty = decide (s.size = 0) := by
  rw [← decide_eq_emptyBytes]
  by_cases h : s.size = 0
  · have : s = ByteArray.empty := by
      cases s with | mk a => exact congrArg ByteArray.mk (Array.eq_empty_of_size_eq_zero h)
    simp [this]
  · have : s ≠ ByteArray.empty := fun e => h (by rw [e]; rfl)
    simp [this, h]

set_option maxRecDepth 100000 in
set_option maxHeartbeats 2000000 in
theorem key_calls (s : ByteArray) (w : World) (hsz : s.size ≤ 1000000) :
    Calls Tryz.prog 78 #[.string s] w fun e w' => e = .returned (.bool (keyB s)) ∧ w = w' := by
  by_cases h0 : s.size = 0
  · have he : s.toList.isEmpty = true := by rw [empty_of]; simp [h0]
    have hk := Lib.hid (show keyB s = false by simp [keyB, h0])
    clear h0
    go_enter Tryz.func78, Tryz.ntmps78
    go_wp2
    go_ret
    exact ⟨ret_bool hk.out.symm, rfl⟩
  · have he : s.toList.isEmpty = false := by rw [empty_of]; simp [h0]
    have hpos : 0 < s.size := by omega
    by_cases h40 : s.size ≤ 40
    · have hc : ∃ b, smallB (s[0].toNat : Int) = b := ⟨_, rfl⟩
      obtain ⟨b, hb⟩ := hc
      have Hb := Lib.hid hb
      have Hb0 := Lib.hid (show smallB (byteAt s 0) = b by rw [byteAt, dif_pos hpos]; exact hb)
      clear hb
      cases b
      · have hk := Lib.hid (show keyB s = false by simp [keyB, Hb0.out])
        go_enter Tryz.func78, Tryz.ntmps78
        go_wp2_with fail
        refine (small_calls _ w).mono ?_
        rintro e w' ⟨rfl, rfl⟩
        rw [Hb.out]
        go_wp2_with fail
        go_ret
        exact ⟨ret_bool hk.out.symm, rfl⟩
      · go_enter Tryz.func78, Tryz.ntmps78
        go_wp2_with fail
        refine (small_calls _ w).mono ?_
        rintro e w' ⟨rfl, rfl⟩
        rw [Hb.out]
        go_wp2_with fail
        go_loop [19] (fun i => ∃ k : Nat, k ≤ s.size ∧ i = .int .i64 k ∧ Hid (∀ i, i < k → okC (byteAt s i) = true)) (fun i => s.size - (intOf i).toNat)
        case atStart => exact ⟨0, Nat.zero_le _, rfl, Lib.hid fun i hi => by omega⟩
        case round =>
          obtain ⟨k, hk, rfl, Hok⟩ := hrel
          by_cases hlt : k < s.size
          · obtain ⟨b1, hb1⟩ : ∃ b, smallB (s[k].toNat : Int) = b := ⟨_, rfl⟩
            have Hx := Lib.hid (show byteAt s k = (s[k].toNat : Int) by rw [byteAt, dif_pos hlt])
            have Hnext := Lib.hid (show okC (s[k].toNat : Int) = true → ∀ i, i < k + 1 → okC (byteAt s i) = true from fun h i hi => by
              rcases Nat.lt_succ_iff_lt_or_eq.1 hi with h' | rfl
              · exact Hok.out i h'
              · rw [Hx.out]; exact h)
            have Hfail := Lib.hid (show okC (s[k].toNat : Int) = false → keyB s = false from fun h => by
              unfold keyB
              rw [Bool.and_eq_false_iff]; right
              rw [List.all_eq_false]
              exact ⟨k, List.mem_range.2 hlt, by rw [Hx.out, h]; simp⟩)
            have H1 := Lib.hid hb1
            clear hb1
            cases b1
            · obtain ⟨b2, hb2⟩ : ∃ b, digitB (s[k].toNat : Int) = b := ⟨_, rfl⟩
              have H2 := Lib.hid hb2
              clear hb2
              cases b2
              · by_cases h45 : (s[k].toNat : Int) = 45
                · have e1 : ((s[k].toNat : Int) != 45) = false := by simp [h45]
                  have Hgo := Lib.hid (Hnext.out (by simp [okC, h45]))
                  clear h45
                  go_wp2_with fail
                  refine (small_calls _ w).mono ?_
                  rintro e w' ⟨rfl, rfl⟩
                  rw [H1.out]
                  go_wp2_with fail
                  refine (digit_calls _ w).mono ?_
                  rintro e w' ⟨rfl, rfl⟩
                  rw [H2.out]
                  go_wp2_with fail
                  go_round
                  case rel => exact ⟨k + 1, by omega, by go_num, Hgo⟩
                  case measure => simp [intOf]; omega
                · have e1 : ((s[k].toNat : Int) != 45) = true := by simpa using h45
                  by_cases h95 : (s[k].toNat : Int) = 95
                  · have e2 : ((s[k].toNat : Int) != 95) = false := by simp [h95]
                    have Hgo := Lib.hid (Hnext.out (by simp [okC, h95]))
                    clear h45 h95
                    go_wp2_with fail
                    refine (small_calls _ w).mono ?_
                    rintro e w' ⟨rfl, rfl⟩
                    rw [H1.out]
                    go_wp2_with fail
                    refine (digit_calls _ w).mono ?_
                    rintro e w' ⟨rfl, rfl⟩
                    rw [H2.out]
                    go_wp2_with fail
                    go_round
                    case rel => exact ⟨k + 1, by omega, by go_num, Hgo⟩
                    case measure => simp [intOf]; omega
                  · have e2 : ((s[k].toNat : Int) != 95) = true := by simpa using h95
                    have Hgo := Lib.hid (Hfail.out (by simp [okC, H1.out, H2.out, h45, h95]))
                    clear h45 h95
                    go_wp2_with fail
                    refine (small_calls _ w).mono ?_
                    rintro e w' ⟨rfl, rfl⟩
                    rw [H1.out]
                    go_wp2_with fail
                    refine (digit_calls _ w).mono ?_
                    rintro e w' ⟨rfl, rfl⟩
                    rw [H2.out]
                    go_wp2_with fail
                    go_ret
                    exact ⟨ret_bool Hgo.out.symm, rfl⟩
              · have Hgo := Lib.hid (Hnext.out (by simp [okC, H2.out]))
                go_wp2_with fail
                refine (small_calls _ w).mono ?_
                rintro e w' ⟨rfl, rfl⟩
                rw [H1.out]
                go_wp2_with fail
                refine (digit_calls _ w).mono ?_
                rintro e w' ⟨rfl, rfl⟩
                rw [H2.out]
                go_wp2_with fail
                go_round
                case rel => exact ⟨k + 1, by omega, by go_num, Hgo⟩
                case measure => simp [intOf]; omega
            · have Hgo := Lib.hid (Hnext.out (by simp [okC, H1.out]))
              go_wp2_with fail
              refine (small_calls _ w).mono ?_
              rintro e w' ⟨rfl, rfl⟩
              rw [H1.out]
              go_wp2_with fail
              go_round
              case rel => exact ⟨k + 1, by omega, by go_num, Hgo⟩
              case measure => simp [intOf]; omega
          · obtain rfl : k = s.size := by omega
            have Hgo := Lib.hid (show keyB s = true by
              unfold keyB
              rw [Hb0.out, List.all_eq_true.2 fun i hi => Hok.out i (List.mem_range.1 hi)]
              simp [h40]; omega)
            go_wp2_with fail
            go_ret
            exact ⟨ret_bool Hgo.out.symm, rfl⟩
    · have hk := Lib.hid (show keyB s = false by simp [keyB, h40])
      go_enter Tryz.func78, Tryz.ntmps78
      go_wp2
      go_ret
      exact ⟨ret_bool hk.out.symm, rfl⟩
end Go.Proofs.YthlfjfmlmcoihaaGreat
/- Walks of check.Each and cmp.Or: the first error of some. -/
namespace Go.Proofs.YthlfjfmlmcoihaaGreat
open Go.RowKit

theorem firstE_append (a b : List Int) : firstE (a ++ b) = if firstE a = 0 then firstE b else firstE a := by
  induction a with
  | nil => simp [firstE]
  | cons x xs ih =>
    simp only [List.cons_append, firstE]
    by_cases hx : x = 0 <;> simp [hx, ih]
theorem firstE_zero {a : List Int} (h : ∀ x ∈ a, x = 0) : firstE a = 0 := by
  induction a with
  | nil => rfl
  | cons x xs ih =>
    have hx := h x (by simp)
    simp [firstE, hx, ih fun y hy => h y (by simp [hy])]
/-- The errors of the first n, each asked for in turn. -/
def errsTo (f : Nat → Int) (n : Nat) : Int := firstE ((List.range n).map f)
theorem errsTo_hit {f : Nat → Int} {n k : Nat} (hk : k < n) (h0 : ∀ i, i < k → f i = 0) (h : f k ≠ 0) : errsTo f n = f k := by
  obtain ⟨m, rfl⟩ : ∃ m, n = k + 1 + m := ⟨n - (k + 1), by omega⟩
  unfold errsTo
  rw [List.range_add, List.map_append, firstE_append, List.range_succ, List.map_append, firstE_append, firstE_zero (fun x hx => by
    obtain ⟨i, hi, rfl⟩ := List.mem_map.1 hx
    exact h0 i (List.mem_range.1 hi))]
  simp [firstE, h]
theorem errsTo_none {f : Nat → Int} {n : Nat} (h0 : ∀ i, i < n → f i = 0) : errsTo f n = 0 :=
  firstE_zero fun x hx => by
    obtain ⟨i, hi, rfl⟩ := List.mem_map.1 hx
    exact h0 i (List.mem_range.1 hi)
/-- What Each answers. -/
def eachE (n most : Int) (f : Nat → Int) : Int := if most < n then 2 else errsTo f n.toNat

def IntBelow (x : Int) (w : World) (e : Ending) (w' : World) : Prop := e = .returned (.int .i64 x) ∧ Below w.heap.size w w'

set_option maxRecDepth 100000 in
set_option maxHeartbeats 1000000 in
theorem each_calls (g : Nat) (caps : Array Value) (eg : ∀ args w, (callFunc g args).run Tryz.prog w = .ok (.enter g args) w) (f : Nat → Int) (n : Nat) (most : Int) (w : World) (hn : n ≤ 1000000)
    (hf : ∀ (W : World) (i : Nat), i < n → Below w.heap.size w W → Calls Tryz.prog g (#[.int .i64 (i : Int)] ++ caps) W (IntBelow (f i) W)) :
    Calls Tryz.prog 75 #[.int .i64 (n : Int), .int .i64 most, .func (.func g) #[] caps] w (IntBelow (eachE n most f) w) := by
  by_cases hm : most < (n : Int)
  · go_enter Tryz.func75, Tryz.ntmps75
    go_wp2
    go_ret
    exact ⟨ret_int (by simp [eachE, hm]), Below.refl _ _⟩
  · have he := Lib.hid (show eachE n most f = errsTo f n by simp [eachE, hm])
    have Hf := Lib.hid hf
    clear hf
    go_enter Tryz.func75, Tryz.ntmps75
    go_wp2_with fail
    go_loopw [13] (fun i wr => ∃ k : Nat, k ≤ n ∧ i = .int .i64 k ∧ Below w.heap.size w wr ∧ Hid (∀ i, i < k → f i = 0)) (fun i _ => n - (intOf i).toNat)
    case atStart => exact ⟨0, Nat.zero_le _, rfl, Below.refl _ _, Lib.hid fun i hi => by omega⟩
    case round =>
      obtain ⟨k, hk, rfl, hb, H0⟩ := hrel
      by_cases hlt : k < n
      · go_wp2_with fail
        refine (Hf.out wr k hlt hb).mono ?_
        rintro e w' ⟨rfl, hb'⟩
        have hb2 := hb.trans (hb'.mono hb.size)
        by_cases hz : f k = 0
        · have e1 : (f k != 0) = false := by simp [hz]
          have Hz := Lib.hid hz
          clear hz
          go_wp2_with fail
          go_roundw
          case rel => exact ⟨k + 1, by omega, by go_num, hb2, Lib.hid fun i hi => by
            rcases Nat.lt_succ_iff_lt_or_eq.1 hi with h | rfl
            · exact H0.out i h
            · exact Hz.out⟩
          case measure => simp [intOf]; omega
        · have e1 : (f k != 0) = true := by simp [hz]
          have Hz := Lib.hid hz
          clear hz
          go_wp2_with fail
          go_ret
          exact ⟨ret_int (by rw [he.out, errsTo_hit hlt H0.out Hz.out]), hb2⟩
      · obtain rfl : k = n := by omega
        go_wp2_with fail
        go_ret
        exact ⟨ret_int (by rw [he.out, errsTo_none H0.out]), hb⟩

/-- A slice of numbers, as cells. -/
def NumsAt (w : World) (g : Nat) (off : Nat) (xs : List Int) : Prop := ∀ (i : Nat) (x : Int), xs[i]? = some x → w.cell? ⟨g, off + i, none⟩ = some (.int .i64 x)
theorem firstE_hit {xs : List Int} {k : Nat} {x : Int} (hk : xs[k]? = some x) (h0 : ∀ i y, i < k → xs[i]? = some y → y = 0) (h : x ≠ 0) : firstE xs = x := by
  induction xs generalizing k with
  | nil => simp at hk
  | cons y ys ih =>
    cases k with
    | zero => simp at hk; subst hk; simp [firstE, h]
    | succ k =>
      have hy : y = 0 := h0 0 y (by omega) (by simp)
      simp only [firstE, hy, if_true]
      exact ih (by simpa using hk) fun i z hi hz => h0 (i + 1) z (by omega) (by simpa using hz)
theorem firstE_none {xs : List Int} (h0 : ∀ (i : Nat) (y : Int), xs[i]? = some y → y = 0) : firstE xs = 0 :=
  firstE_zero fun x hx => by obtain ⟨i, hi⟩ := List.getElem?_of_mem hx; exact h0 i x hi

set_option maxRecDepth 100000 in
set_option maxHeartbeats 1000000 in
theorem orE_calls (g off cap : Nat) (xs : List Int) (w : World) (hn : xs.length ≤ 1000000) (hc : NumsAt w g off xs) :
    Calls Tryz.prog 53 #[.slice (some ⟨g, off, none⟩) xs.length cap] w fun e w' => e = .returned (.int .i64 (firstE xs)) ∧ w = w' := by
  have Hc := Lib.hid hc
  clear hc
  go_enter Tryz.func53, Tryz.ntmps53
  go_wp2_with fail
  go_loop [8] (fun i => ∃ k : Nat, k ≤ xs.length ∧ i = .int .i64 k ∧ Hid (∀ (i : Nat) (y : Int), i < k → xs[i]? = some y → y = 0)) (fun i => xs.length - (intOf i).toNat)
  case atStart => exact ⟨0, Nat.zero_le _, rfl, Lib.hid fun i y hi => by omega⟩
  case round =>
    obtain ⟨k, hk, rfl, H0⟩ := hrel
    by_cases hlt : k < xs.length
    · obtain ⟨x, hx⟩ : ∃ x, xs[k]? = some x := ⟨xs[k], List.getElem?_eq_getElem hlt⟩
      have hcell := Hc.out k x hx
      have Hx := Lib.hid hx
      clear hx
      by_cases hz : x = 0
      · subst hz
        go_wp2_with fail
        go_round
        case rel => exact ⟨k + 1, by omega, by go_num, Lib.hid fun i y hi hy => by
          rcases Nat.lt_succ_iff_lt_or_eq.1 hi with h | rfl
          · exact H0.out i y h hy
          · rw [Hx.out] at hy; exact (Option.some.inj hy).symm⟩
        case measure => simp [intOf]; omega
      · have e1 : (x != 0) = true := by simp [hz]
        have Hz := Lib.hid hz
        clear hz
        go_wp2_with fail
        go_ret
        exact ⟨ret_int (firstE_hit Hx.out H0.out Hz.out).symm, rfl⟩
    · obtain rfl : k = xs.length := by omega
      go_wp2_with fail
      go_ret
      exact ⟨ret_int (firstE_none fun i y hy => H0.out i y (List.getElem?_eq_some_iff.1 hy).1 hy).symm, rfl⟩

end Go.Proofs.YthlfjfmlmcoihaaGreat
/- A binary search over keys, told plainly. -/
namespace Go.Proofs.YthlfjfmlmcoihaaGreat
open Go.RowKit

/-- The key of player i. -/
def keyAt (ps : List ByteArray) (i : Nat) : ByteArray := ps[i]?.getD ByteArray.empty
theorem keyAt_some {ps : List ByteArray} {i : Nat} {p : ByteArray} (h : ps[i]? = some p) : keyAt ps i = p := by simp [keyAt, h]
/-- Is a key among some? -/
def hasK (ps : List ByteArray) (key : ByteArray) : Bool := ps.any fun p => beqS p key
/-- The search, from i to j. -/
def bs (ps : List ByteArray) (who : ByteArray) : Nat → Nat → Nat → Nat
  | 0, i, _ => i
  | f + 1, i, j => if i < j then (if ltS (keyAt ps ((i + j) / 2)) who then bs ps who f ((i + j) / 2 + 1) j else bs ps who f i ((i + j) / 2)) else i
def bsI (ps : List ByteArray) (who : ByteArray) : Nat := bs ps who ps.length 0 ps.length
def knownB (ps : List ByteArray) (who : ByteArray) : Bool := decide (bsI ps who < ps.length) && beqS (keyAt ps (bsI ps who)) who

theorem bs_end {ps : List ByteArray} {who : ByteArray} {f i j : Nat} (h : ¬ i < j) : bs ps who f i j = i := by
  cases f with
  | zero => rfl
  | succ f => rw [bs, if_neg h]
theorem bs_left {ps : List ByteArray} {who : ByteArray} {f i j : Nat} (h : i < j) (hf : j - i ≤ f) (hl : ltS (keyAt ps ((i + j) / 2)) who = true) : ∃ f', bs ps who f i j = bs ps who f' ((i + j) / 2 + 1) j ∧ j - ((i + j) / 2 + 1) ≤ f' := by
  cases f with
  | zero => omega
  | succ f => exact ⟨f, by rw [bs, if_pos h, if_pos hl], by omega⟩
theorem bs_right {ps : List ByteArray} {who : ByteArray} {f i j : Nat} (h : i < j) (hf : j - i ≤ f) (hl : ltS (keyAt ps ((i + j) / 2)) who = false) : ∃ f', bs ps who f i j = bs ps who f' i ((i + j) / 2) ∧ (i + j) / 2 - i ≤ f' := by
  cases f with
  | zero => omega
  | succ f => exact ⟨f, by rw [bs, if_pos h, hl]; rfl, by omega⟩

/-- Keys rise. -/
def SortedK (ps : List ByteArray) : Prop := ∀ i j, i < j → j < ps.length → ltS (keyAt ps i) (keyAt ps j) = true
theorem bs_spec {ps : List ByteArray} (hs : SortedK ps) (who : ByteArray) : ∀ f i j, i ≤ j → j ≤ ps.length → j - i ≤ f → (∀ k, k < i → ltS (keyAt ps k) who = true) → (∀ k, j ≤ k → k < ps.length → ltS (keyAt ps k) who = false) →
    (∀ k, k < bs ps who f i j → ltS (keyAt ps k) who = true) ∧ (∀ k, bs ps who f i j ≤ k → k < ps.length → ltS (keyAt ps k) who = false) := by
  intro f
  induction f with
  | zero =>
    intro i j hij _ hf h1 h2
    have : i = j := by omega
    subst this
    exact ⟨h1, h2⟩
  | succ f ih =>
    intro i j hij hj hf h1 h2
    rw [bs]
    split
    · rename_i hlt
      split
      · rename_i hl
        refine ih _ _ (by omega) hj (by omega) (fun k hk => ?_) h2
        rcases Nat.lt_succ_iff_lt_or_eq.1 hk with h | rfl
        · exact ltS_trans (hs k _ h (by omega)) hl
        · exact hl
      · rename_i hl
        have hl' : ltS (keyAt ps ((i + j) / 2)) who = false := by simpa using hl
        refine ih _ _ (by omega) (by omega) (by omega) h1 (fun k hk hkn => ?_)
        rcases Nat.lt_or_eq_of_le hk with h | rfl
        · cases hh : ltS (keyAt ps k) who
          · rfl
          · have := ltS_trans (hs _ k h hkn) hh
            rw [hl'] at this; cases this
        · exact hl'
    · rename_i hn
      have : i = j := by omega
      subst this
      exact ⟨h1, h2⟩
theorem known_eq {ps : List ByteArray} (hs : SortedK ps) (who : ByteArray) : knownB ps who = hasK ps who := by
  obtain ⟨h1, h2⟩ := bs_spec hs who ps.length 0 ps.length (Nat.zero_le _) (Nat.le_refl _) (by omega) (fun k hk => by omega) (fun k hk hk' => by omega)
  have h1' : ∀ k, k < bsI ps who → ltS (keyAt ps k) who = true := h1
  have h2' : ∀ k, bsI ps who ≤ k → k < ps.length → ltS (keyAt ps k) who = false := h2
  unfold knownB
  cases hh : hasK ps who
  · rw [Bool.and_eq_false_iff]
    by_cases hl : bsI ps who < ps.length
    · right
      have hp : ps[bsI ps who]? = some ps[bsI ps who] := List.getElem?_eq_getElem hl
      rw [keyAt_some hp]
      cases hb : beqS (ps[bsI ps who]) who
      · rfl
      · rw [hasK] at hh
        rw [List.any_eq_false] at hh
        exact absurd hb (hh _ (List.getElem_mem hl))
    · left; simp; omega
  · rw [hasK, List.any_eq_true] at hh
    obtain ⟨p, hp, hb⟩ := hh
    obtain ⟨k, hk⟩ := List.getElem?_of_mem hp
    have hkl : k < ps.length := (List.getElem?_eq_some_iff.1 hk).1
    have hpk : p = who := beqS_iff.1 hb
    have e : keyAt ps k = who := by rw [keyAt_some hk, hpk]
    have hle : bsI ps who ≤ k := by
      rcases Nat.lt_or_ge k (bsI ps who) with h | h
      · have := h1' k h; rw [e, ltS_irrefl] at this; cases this
      · exact h
    have heq : bsI ps who = k := by
      rcases Nat.lt_or_eq_of_le hle with h | h
      · have a := hs _ k h hkl
        rw [e] at a
        have b := h2' (bsI ps who) (Nat.le_refl _) (by omega)
        rw [b] at a; cases a
      · exact h
    rw [heq, e, beqS_self]
    simp [hkl]

/-- What a search answers. -/
def Found (ps : List ByteArray) (who : ByteArray) (w : World) (e : Ending) (w' : World) : Prop := e = .returned (.tuple #[.int .i64 (bsI ps who : Int), .bool (knownB ps who)]) ∧ Below w.heap.size w w'
def BoolIs (b : Bool) (w : World) (e : Ending) (w' : World) : Prop := e = .returned (.bool b) ∧ Below w.heap.size w w'
end Go.Proofs.YthlfjfmlmcoihaaGreat
/- A law's contract lifted into the row's form. No tables: nothing is laid. -/
namespace Go.Proofs.YthlfjfmlmcoihaaGreat
open Go.ChangeShapes Go.WideShapes Go.ChangeAt Go.RowKit Go.Shelf Go.Lib

theorem own : ownKnob Tryz.prog.godebug = none := by kernel_rfl
theorem laidOut : laidOutB Tryz.prog = true := by kernel_rfl
theorem bytesInt : Tryz.prog.bytesOf 3 = 8 := by kernel_rfl
theorem cellsInt : Tryz.prog.cellsOf 3 = 1 := by kernel_rfl
set_option maxRecDepth 100000 in
set_option maxHeartbeats 1000000 in
/-- WHAT THE WALK GIVES, FOR EVERY TAPE AND EVERY WORLD. -/
theorem contract (n : FuncId) (fn : Func) (hpar : fn.params = #[22]) (hres : fn.resultTypes = #[4]) (s : ChangeSpec) (hvars : s.vars = []) (hfn : ∀ (H : Type) (d : DataW H), s.fn H [d] = { results := [.lit (.bool true)], args := [d] })
    (law : ∀ (lv : Value) (w : World), Tape w lv → Calls Tryz.prog n #[lv] w (BoolIs true w))
    (H : Type) (enc : TypeId × Value → H) (W : World) (base : Nat) (args : Array Value) (ds gs : List (DataW H)) (before : List MemPlace)
    (hval : ∀ (j : Nat) t v, fn.params[j]? = some t → args[j]? = some v → Value.okWide Tryz.prog W .any base t v)
    (hW : DataW.Whole enc Tryz.prog fn.params.toList s.vars false W args.toList ds gs before) (ts : List TypeId) (hts : ts[0]? = some 22) (hsz : (DataW.weightsEach Tryz.prog ts (ds ++ gs)).all (· ≤ reachBytes) = true) :
    Calls Tryz.prog n args W fun e W' => ∃ v, e = .returned v ∧ s.post enc Tryz.prog fn false true false false W args v W' := by
  have hW' := hW
  obtain ⟨p, q, hA0, hV, rfl, hfz, hnd⟩ := hW
  have hA : DataW.TrodAll enc Tryz.prog W 0 (fun _ => true) true fn.params.toList args.toList ds p := hA0
  rw [hpar] at hA hval
  rw [hvars] at hV
  obtain ⟨v0, d0, rfl, rfl, h0⟩ := trodAll_one hA
  obtain ⟨rfl, rfl⟩ := trodVars_none hV
  obtain ⟨a0, len, cap, rfl⟩ := okWide_slice Tryz.underlying22 (hval 0 22 v0 rfl rfl)
  have h0k := h0
  obtain ⟨fuel0, hf⟩ := h0
  simp only [List.append_nil] at hW' hfz hnd
  have hlt : ∀ x ∈ p, x.block < W.heap.size := fun x hx => by simpa using hW'.lt x hx
  have hT : Tape W (.slice a0 len cap) := by
    rcases open_ints Tryz.underlying22 Tryz.underlying3 cellsInt hf with ⟨hcs, hx⟩ | ⟨a, len', cap', zs, hcs, _, hl, hm, hz, hx, hcell, hwz⟩
    · simp [Value.cells] at hcs
      obtain ⟨rfl, rfl, rfl⟩ := hcs
      exact .inl ⟨_, _, rfl⟩
    · simp [Value.cells] at hcs
      obtain ⟨rfl, rfl, rfl⟩ := hcs
      by_cases h0 : len = 0
      · subst h0; exact .inl ⟨_, _, rfl⟩
      · have hzl : zs.length = cap := by simpa using hz
        obtain ⟨b, off, rfl, hc⟩ := Go.ints_at hcell (by omega)
        have hb : b < W.heap.size := by
          have h1 := hc 0 (by omega)
          rcases Nat.lt_or_ge b W.heap.size with h | h
          · exact h
          · simp [World.cell?, Array.getElem?_eq_none h] at h1
        have hd : ([d0] : List (DataW H))[0]? = some (.slice (lits .i64 (zs.take len)) (lits .i64 (zs.drop len))) := by
          simp only [Prod.mk.injEq] at hx
          rw [hx.1]; rfl
        have hs := sized_slice hsz hts (by simpa using hd) Tryz.underlying22
        rw [bytesInt] at hs
        have hsl : len ≤ 140737488355328 := by
          simp [lits, reachBytes] at hs
          omega
        exact .inr ⟨b, off, len, cap, rfl, hb, hsl, fun j hj => ⟨_, hc j (by omega)⟩⟩
  refine (law _ W hT).mono fun e W' ⟨he, hb⟩ => ?_
  subst he
  refine ⟨_, rfl, _, _, _, [], p, [], hW', ?_, ?_, ?_, hb.frame _, fun h => by cases h⟩
  · rw [hres, List.append_nil, hfn]; exact trodAll_mk1 (shut_bool Tryz.underlying4 _)
  · rw [hpar, List.append_nil, hfn]; exact trodAll_mk1 (Below.trod laidOut (by kernel_rfl) (of_decide_eq_true (by kernel_rfl)) h0k hb hlt)
  · rw [hvars, List.append_nil, hfn]; rfl
end Go.Proofs.YthlfjfmlmcoihaaGreat
namespace Go.Proofs.YthlfjfmlmcoihaaGreat
open Go.RowKit

theorem info_str : (Tryz.prog.info? 9).map (fun i => (i.zero, i.size, i.bytes)) = some (some (.string ⟨#[]⟩), 1, 16) := by kernel_rfl

def S_df : ByteArray := ⟨#[100, 102]⟩
def S_fw : ByteArray := ⟨#[102, 119]⟩
def S_gk : ByteArray := ⟨#[103, 107]⟩
def S_mf : ByteArray := ⟨#[109, 102]⟩
def spotKeys : List ByteArray := [S_df, S_fw, S_gk, S_mf]

/-- A slice of strings out of some, in new memory from lo on. -/
def StrsOf (lo m : Nat) (from_ : List ByteArray) (w : World) (v : Value) : Prop := ∃ ks : List ByteArray, w.ownsRow lo 9 1 v ks.length (ks.map .string) ∧ ks.length ≤ m ∧ ∀ k ∈ ks, k ∈ from_

/-- What a maker answers: a value that has P in the world behind it; the stream has moved on. -/
def Made (B N : Nat) (P : World → Value → Prop) (w : World) (e : Ending) (w' : World) : Prop := ∃ v, P w' v ∧ e = .returned v ∧ St w' B N ∧ w.grownBy w' (some B)

set_option maxRecDepth 100000 in
set_option maxHeartbeats 1000000 in
theorem spots_calls (B N : Nat) (w : World) (hs : St w B N) (hN : N ≤ 3999000) :
    Calls Tryz.prog 98 #[.pointer (some ⟨B, 0, none⟩)] w (Made B (N + 5) (StrsOf w.heap.size 4 spotKeys) w) := by
  obtain ⟨i0, hi, hz0, hz1, hz2⟩ := info_parts info_str
  go_enter Tryz.func98, Tryz.ntmps98
  go_wp2_with fail
  go_loopw [3, 8] (fun out i wr => ∃ (j : Nat) (ks : List ByteArray), j ≤ 4 ∧ i = .int .i64 j ∧ ks.length ≤ j ∧ (∀ k ∈ ks, k ∈ spotKeys) ∧ wr.ownsRow (w.heap.size + 1) 9 1 out ks.length (ks.map .string) ∧ St wr B (N + j) ∧ w.grownBy wr (some B) ∧
      wr.heap[w.heap.size]? = some (.cells #[.string S_df, .string S_fw, .string S_gk, .string S_mf] 9 (0, 0))) (fun _ i _ => 4 - (intOf i).toNat)
  case atStart =>
    exact ⟨0, [], by omega, rfl, by simp, by simp, World.ownsRow_nil _ _ _ _, hs.alloc _, gb_alloc w _ _, heap_alloc_new w _⟩
  case round =>
    obtain ⟨j, ks, hj, rfl, hkl, hks, hown, hsr, hg, hk⟩ := hrel
    by_cases hlt : j < 4
    · have hcell : ∃ k, k ∈ spotKeys ∧ wr.cell? ⟨w.heap.size, j, none⟩ = some (.string k) := by
        rw [cell_of_row wr _ _ _ _ _ hk]
        match j, hlt with
        | 0, _ => exact ⟨S_df, by simp [spotKeys], rfl⟩
        | 1, _ => exact ⟨S_fw, by simp [spotKeys], rfl⟩
        | 2, _ => exact ⟨S_gk, by simp [spotKeys], rfl⟩
        | 3, _ => exact ⟨S_mf, by simp [spotKeys], rfl⟩
      obtain ⟨k, hkm, hcell⟩ := hcell
      have Hk := Lib.hid hk
      have Hkm := Lib.hid hkm
      have Hks := Lib.hid hks
      clear hk hkm hks
      go_wp2_with fail
      refine (flip_calls B (N + j) 3 wr hsr (by omega) (by omega) (by omega)).mono ?_
      rintro e w1 ⟨v, ⟨b, rfl⟩, rfl, hs1, hg1⟩
      have hown1 := hown.kept hg1 (by right; intro e; have := (own_block hown B e).1; have := hs.lt; omega)
      have hk1 : w1.heap[w.heap.size]? = some (.cells #[.string S_df, .string S_fw, .string S_gk, .string S_mf] 9 (0, 0)) := (hg1.block _ (lt_of_heap Hk.out) (by have := hs.lt; simp; omega)).trans Hk.out
      have Hk1 := Lib.hid hk1
      clear hk1
      cases b
      · go_wp2_with fail
        go_roundw
        case rel => exact ⟨j + 1, ks, by omega, by go_num, by omega, Hks.out, hown1, hs1, gb_trans hg hg1, Hk1.out⟩
        case measure => simp [intOf]; omega
      · go_wp2_with (at_builtin; refine wpList_append_own _ rfl _ _ 39 rfl (w.heap.size + 1) 9 i0 (.string ⟨#[]⟩) 1 16 Tryz.underlying39 hi hz0 hz1 hz2 rfl (by decide) _ _ _ rfl (hown1.alloc _) ⟨w1.heap.size, 0, none⟩ 1 1 [.string k] rfl rfl ?c1 ?c2 ?c3 ?c4 ?c5 ?_)
        case c1 => exact cell_one_new _ _ _
        case c2 => simp [Value.oneCell']
        case c3 => unfold maxLen; omega
        case c4 => omega
        case c5 => have := hg.size; have := hg1.size; have := lt_of_heap Hk.out; simp; omega
        intro v' w2 hown2 hgrow _
        go_wp2_with fail
        go_roundw
        case rel =>
          refine ⟨j + 1, ks ++ [k], by omega, by go_num, by simp; omega, ?_, by simpa using hown2, ?_, ?_, ?_⟩
          · intro x hx; rcases List.mem_append.1 hx with h | h
            · exact Hks.out x h
            · obtain rfl := List.mem_singleton.1 h; exact Hkm.out
          · exact (hs1.alloc _).grown hgrow fun r hr => by have := (own_block hown1 r hr).1; have := hs.lt; omega
          · exact gb_then (gb_trans hg (gb_trans hg1 (gb_alloc w1 _ _))) hgrow fun r hr => by have := (own_block hown1 r hr).1; omega
          · exact (hgrow.block _ (by have := lt_of_heap Hk1.out; simp; omega) fun e => by have := (own_block hown1 _ e.symm).1; omega).trans ((heap_alloc_old w1 _ (lt_of_heap Hk1.out)).trans Hk1.out)
        case measure => simp [intOf]; omega
    · obtain rfl : j = 4 := by omega
      have hR := hown.mono (show w.heap.size ≤ w.heap.size + 1 by omega)
      obtain ⟨a, c, hv⟩ := owns_shape hown
      have HR := Lib.hid hR
      have Hks := Lib.hid hks
      clear hk hown hR hks hi hz0 hz1 hz2
      rw [hv] at HR ⊢
      by_cases hz : ks.length = 0
      · have hne : ((ks.length : Int) == 0) = true := by rw [beq_iff_eq]; omega
        rw [hz]
        clear hne hv
        go_wp2_with fail
        have hn := strs_new wr [S_df, S_gk, S_mf] (by decide)
        refine (some_calls B (N + 4) wr.heap.size _ [S_df, S_gk, S_mf] _ (hsr.alloc _) (by omega) hn hsr.lt (by simp)).mono ?_
        rintro e w1 ⟨v, ⟨k, rfl, hk⟩, rfl, hs1, hg1⟩
        go_wp2_with fail
        go_ret
        exact ⟨_, ⟨[k], (World.ownsRow_lit w1 #[.string k] 1 (by have := hg.size; have := hg1.size; simp at this; omega) (by unfold maxLen; omega) rfl), by simp, fun x hx => by
          obtain rfl := List.mem_singleton.1 hx
          revert hk; simp only [spotKeys, List.mem_cons, List.not_mem_nil, or_false]; rintro (h | h | h) <;> simp [h]⟩, rfl, hs1.alloc _, gb_trans hg (gb_trans (gb_alloc wr _ _) (gb_trans hg1 (gb_alloc w1 _ _)))⟩
      · have hne : ((ks.length : Int) == 0) = false := by rw [beq_eq_false_iff_ne]; omega
        clear hv
        go_wp2_with fail
        go_ret
        exact ⟨_, ⟨ks, HR.out, by omega, Hks.out⟩, rfl, hsr.mono (by omega), hg⟩
theorem st_cells {w : World} {B N : Nat} (h : St w B N) : ∃ cur, w.heap[B]? = some (.cells cur 25 (0, 0)) := by
  obtain ⟨lv, k, h, _⟩ := h
  exact ⟨_, h⟩
theorem strs_shape {w : World} {lo : Nat} {v : Value} {ks : List ByteArray} (h : Strs w lo v ks) : ∃ a c, v = .slice a ks.length c := by
  rcases strs_at h with ⟨rfl, rfl⟩ | ⟨g, off, cap, rfl, _⟩
  · exact ⟨none, 0, rfl⟩
  · exact ⟨_, _, rfl⟩
end Go.Proofs.YthlfjfmlmcoihaaGreat
