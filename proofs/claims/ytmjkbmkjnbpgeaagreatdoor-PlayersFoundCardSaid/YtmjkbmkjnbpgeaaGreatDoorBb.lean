/- Walks of the stream's functions: what Next and its callers hand out. Walks of what makes players and stints out of the stream. -/
import Derived.Test.YtmjkbmkjnbpgeaaGreatDoorRows
import Derived.Test.YtmjkbmkjnbpgeaaGreatDoorBa
namespace Go.Proofs.YtmjkbmkjnbpgeaaGreatDoor
open Go.RowKit

abbrev St (w : World) (B N : Nat) : Prop := Stm w 25 B N
abbrev Dr (B N : Nat) (P : Value → Prop) (w : World) (e : Ending) (w' : World) : Prop := Drawn 25 B N P w e w'

/-- What Below answers. -/
def belowI (x n : Int) : Int := if n < 1 then 0 else x % n
theorem belowI_nonneg (x n : Int) : 0 ≤ belowI x n := by
  unfold belowI; split
  · omega
  · exact Int.emod_nonneg _ (by omega)
theorem belowI_lt (x n : Int) (h : 1 ≤ n) : belowI x n < n := by
  unfold belowI; rw [if_neg (by omega)]; exact Int.emod_lt_of_pos _ (by omega)
theorem tmod_facts (x n : Int) (h : 1 ≤ n) : x.tmod n < n ∧ -n < x.tmod n ∧ (x.tmod n < 0 → x.tmod n + n = x % n) ∧ (0 ≤ x.tmod n → x.tmod n = x % n) := by
  have h1 : x.tmod n < n := Int.tmod_lt_of_pos x (by omega)
  have h2 : -n < x.tmod n := by have := Int.lt_tmod_of_pos x (show 0 < n by omega); omega
  have h3 : x.tmod n = x - n * x.tdiv n := Int.tmod_def x n
  refine ⟨h1, h2, fun h4 => ?_, fun h4 => ?_⟩
  · have e : x = (x.tmod n + n) + n * (x.tdiv n - 1) := by rw [h3, Int.mul_sub]; omega
    have : x % n = (x.tmod n + n) % n := by
      conv => lhs; rw [e]
      rw [Int.add_mul_emod_self_left]
    rw [this, Int.emod_eq_of_lt (by omega) (by omega)]
  · have e : x = x.tmod n + n * x.tdiv n := by omega
    have : x % n = x.tmod n % n := by
      conv => lhs; rw [e]
      rw [Int.add_mul_emod_self_left]
    rw [this, Int.emod_eq_of_lt h4 h1]

set_option maxHeartbeats 400000 in
theorem below_calls (x n : Int) (w : World) (hn1 : n ≤ 9223372036854775807) :
    Calls Tryz.prog 144 #[.int .i64 x, .int .i64 n] w fun e w' => e = .returned (.int .i64 (belowI x n)) ∧ w = w' := by
  by_cases hn : n < 1
  · go_enter Tryz.func144, Tryz.ntmps144
    go_wp2
    go_ret
    exact ⟨by simp [belowI, hn], rfl⟩
  · obtain ⟨h1, h2, h3, h4⟩ := tmod_facts x n (by omega)
    have H3 := Lib.hid h3
    have H4 := Lib.hid h4
    clear h3 h4
    go_enter Tryz.func144, Tryz.ntmps144
    go_wp2
    all_goals go_ret
    · exact ⟨ret_int (by unfold belowI; rw [if_neg (by omega)]; exact H3.out (by assumption)), rfl⟩
    · exact ⟨ret_int (by unfold belowI; rw [if_neg (by omega)]; exact H4.out (by assumption)), rfl⟩

/-- A number below n, as Next hands it out. -/
def Low (n : Int) (v : Value) : Prop := ∃ r : Nat, v = .int .i64 (r : Int) ∧ (r : Int) < n

theorem low_below (x n : Int) (h : 1 ≤ n) : Low n (.int .i64 (belowI x n)) := by
  have h1 := belowI_nonneg x n
  have h2 := belowI_lt x n h
  exact ⟨(belowI x n).toNat, by rw [Int.toNat_of_nonneg h1], by rw [Int.toNat_of_nonneg h1]; exact h2⟩

theorem next_end {w : World} {B N k : Nat} {lv : Value} (n : Int) (x : Int) (hn : 1 ≤ n) (w' : World) (hB : w.heap[B]? = some (.cells #[lv, .int .i64 (k : Int)] 25 (0, 0))) (hk : k ≤ N)
    (hl : (∃ a c, lv = .slice a 0 c) ∨ ∃ b off len cap, lv = .slice (some ⟨b, off, none⟩) len cap ∧ b < B ∧ len ≤ 140737488355328 ∧ ∀ j, j < len → ∃ x : Int, w.cell? ⟨b, off + j, none⟩ = some (.int .i64 x))
    (hw : ∃ q, w' = (w.setCell ⟨B, 1, none⟩ (.int .i64 ((k : Int) + 1))).drewN q) :
    Dr B (N + 1) (Low n) w (.returned (.int .i64 (belowI x n))) w' := by
  obtain ⟨q, rfl⟩ := hw
  have hg : w.grownBy ((w.setCell ⟨B, 1, none⟩ (.int .i64 ((k : Int) + 1))).drewN q) (some B) := ⟨rfl, rfl, rfl, by show _ ≤ (w.setCell _ _).heap.size; simp, fun j _ hne => Below.heap_setCell w _ _ j (by simpa using hne)⟩
  refine ⟨_, low_below x n hn, rfl, ⟨lv, k + 1, ?_, by omega, ?_⟩, hg⟩
  · show (w.setCell ⟨B, 1, none⟩ _).heap[B]? = _
    simp [World.setCell, Array.getElem?_modify, hB]
  · rcases hl with h | ⟨b, off, len, cap, e, hb, hl, hx⟩
    · exact .inl h
    · exact .inr ⟨b, off, len, cap, e, hb, hl, fun j hj => by obtain ⟨x, h⟩ := hx j hj; exact ⟨x, gb_cell hg h (by omega)⟩⟩

set_option maxHeartbeats 400000 in
theorem next_calls (B N : Nat) (n : Int) (w : World) (hs : St w B N) (hN : N ≤ 4000000) (hn : 1 ≤ n) (hn1 : n ≤ 9223372036854775807) :
    Calls Tryz.prog 66 #[.pointer (some ⟨B, 0, none⟩), .int .i64 n] w (Dr B (N + 1) (Low n) w) := by
  obtain ⟨lv, k, hB, hk, hl⟩ := hs
  have c0 : w.cell? ⟨B, 0, none⟩ = some lv := by simp [World.cell?, hB]
  have c1 : w.cell? ⟨B, 1, none⟩ = some (.int .i64 (k : Int)) := by simp [World.cell?, hB]
  have f1 : w.frozen? ⟨B, 1, none⟩ = false := by simp [World.frozen?, hB]
  have Hend := fun x w' => Lib.hid (next_end (N := N) n x hn w' hB hk hl)
  rcases hl with ⟨la, lc, rfl⟩ | ⟨b, off, len, cap, rfl, hb, hlen, hc⟩
  · clear hB
    go_enter Tryz.func66, Tryz.ntmps66
    go_wp2_with fail
    refine (below_calls _ _ _ hn1).mono ?_
    rintro e w' ⟨rfl, rfl⟩
    go_wp2_with fail
    go_ret
    exact (Hend _ _).out ⟨0, rfl⟩
  · clear hB
    by_cases hz : len = 0
    · subst hz
      clear hc
      go_enter Tryz.func66, Tryz.ntmps66
      go_wp2_with fail
      refine (below_calls _ _ _ hn1).mono ?_
      rintro e w' ⟨rfl, rfl⟩
      go_wp2_with fail
      go_ret
      exact (Hend _ _).out ⟨0, rfl⟩
    · have hne : ((len : Int) == 0) = false := by rw [beq_eq_false_iff_ne]; omega
      obtain ⟨x, hx⟩ := hc (k % len) (Nat.mod_lt _ (by omega))
      clear hc
      have hlt : k % len < len := Nat.mod_lt _ (by omega)
      have hq : k / len ≤ k := Nat.div_le_self _ _
      have hd : (k / len) * (k % len) ≤ k := by
        have h1 := Nat.div_mul_le_self k len
        have h2 : (k / len) * (k % len) ≤ (k / len) * len := Nat.mul_le_mul_left _ (by omega)
        omega
      go_enter Tryz.func66, Tryz.ntmps66
      go_wp2_with fail
      go_quiet (fail)
      go_wp2_with fail
      go_quiet (fail)
      go_wp2_with fail
      refine (below_calls _ _ _ (by omega)).mono ?_
      rintro e w' ⟨rfl, rfl⟩
      go_wp2_with fail
      refine (below_calls _ _ _ hn1).mono ?_
      rintro e w' ⟨rfl, rfl⟩
      go_wp2_with fail
      go_ret
      exact (Hend _ _).out ⟨_, rfl⟩

def IsBool (v : Value) : Prop := ∃ b : Bool, v = .bool b
def InRange (low high : Int) (v : Value) : Prop := ∃ r : Int, v = .int .i64 r ∧ low ≤ r ∧ r ≤ high
def OneOf (ks : List ByteArray) (v : Value) : Prop := ∃ k, v = .string k ∧ k ∈ ks

set_option maxHeartbeats 400000 in
theorem flip_calls (B N : Nat) (n : Int) (w : World) (hs : St w B N) (hN : N ≤ 4000000) (hn : 1 ≤ n) (hn1 : n ≤ 9223372036854775807) :
    Calls Tryz.prog 46 #[.pointer (some ⟨B, 0, none⟩), .int .i64 n] w (Dr B (N + 1) IsBool w) := by
  go_enter Tryz.func46, Tryz.ntmps46
  go_wp2_with fail
  refine (next_calls B N n w hs hN hn hn1).mono ?_
  rintro e w' ⟨v, ⟨r, rfl, _⟩, rfl, hs', hg⟩
  go_wp2_with fail
  go_ret
  exact ⟨_, ⟨_, rfl⟩, rfl, hs', hg⟩
set_option maxHeartbeats 400000 in
theorem range_calls (B N : Nat) (low high : Int) (w : World) (hs : St w B N) (hN : N ≤ 4000000) (h : low ≤ high) (h0 : -2199023255552 ≤ low) (h1 : high ≤ 2199023255552) :
    Calls Tryz.prog 91 #[.pointer (some ⟨B, 0, none⟩), .int .i64 low, .int .i64 high] w (Dr B (N + 1) (InRange low high) w) := by
  go_enter Tryz.func91, Tryz.ntmps91
  go_wp2_with fail
  refine (next_calls B N _ w hs hN (by omega) (by omega)).mono ?_
  rintro e w' ⟨v, ⟨r, rfl, hr⟩, rfl, hs', hg⟩
  go_wp2_with fail
  go_ret
  exact ⟨_, ⟨low + r, rfl, by omega, by omega⟩, rfl, hs', hg⟩
set_option maxHeartbeats 400000 in
theorem some_calls (B N lo : Nat) (v : Value) (ks : List ByteArray) (w : World) (hs : St w B N) (hN : N ≤ 4000000) (hv : Strs w lo v ks) (hB : B < lo) (hk : ks ≠ []) :
    Calls Tryz.prog 10 #[.pointer (some ⟨B, 0, none⟩), v] w (Dr B (N + 1) (OneOf ks) w) := by
  rcases strs_at hv with ⟨_, h⟩ | ⟨g, off, cap, rfl, hlo, hg, hn, hc⟩
  · exact absurd h hk
  · have hpos : 0 < ks.length := List.length_pos_iff.2 hk
    clear hv
    go_enter Tryz.func10, Tryz.ntmps10
    go_wp2_with fail
    refine (next_calls B N _ w hs hN (by omega) (by omega)).mono ?_
    rintro e w' ⟨v, ⟨r, rfl, hr⟩, rfl, hs', hg'⟩
    have hr' : r < ks.length := by omega
    have hx : ks[r]? = some ks[r] := List.getElem?_eq_getElem hr'
    have hc' := gb_cell hg' (hc r _ hx) (by omega)
    have hmem : ks[r] ∈ ks := List.getElem_mem hr'
    generalize ks[r] = k at hc' hmem
    clear hc hx
    go_wp2_with fail
    go_ret
    exact ⟨_, ⟨k, rfl, hmem⟩, rfl, hs', hg'⟩
/-- A slice of ints. -/
def Ints (w : World) (lo : Nat) (v : Value) (xs : List Int) : Prop := Rows w 3 lo 1 v (xs.map fun x => [.int .i64 x])
theorem ints_new (w : World) (xs : List Int) (h : xs.length ≤ 1000000) :
    Ints (w.alloc (.cells (xs.map (Value.int .i64)).toArray 3)) w.heap.size (.slice (some ⟨w.heap.size, 0, none⟩) xs.length xs.length) xs := by
  refine ⟨by simpa using h, by simp, .inr ⟨w.heap.size, 0, xs.length, _, (0, 0), by simp, ⟨Nat.le_refl _, by simp⟩, heap_alloc_new w _, fun i j u hu => ?_⟩⟩
  have hj : (xs.map fun k => [Value.int .i64 k])[i]?.getD [] = (xs[i]?.map fun k => [Value.int .i64 k]).getD [] := by simp
  rw [hj] at hu
  cases hk : xs[i]? with
  | none => simp [hk] at hu
  | some k =>
    rw [hk] at hu
    simp only [Option.map_some, Option.getD_some] at hu
    match j, hu with
    | 0, hu =>
      have : u = .int .i64 k := by simpa using hu.symm
      subst this
      simp [hk]
theorem ints_at {w : World} {lo : Nat} {v : Value} {ks : List Int} (h : Ints w lo v ks) :
    (v = .slice none 0 0 ∧ ks = []) ∨ ∃ g off cap, v = .slice (some ⟨g, off, none⟩) ks.length cap ∧ lo ≤ g ∧ g < w.heap.size ∧ ks.length ≤ 1000000 ∧
      ∀ (i : Nat) (k : Int), ks[i]? = some k → w.cell? ⟨g, off + i, none⟩ = some (.int .i64 k) := by
  rcases rows_at h with ⟨e1, e2⟩ | ⟨g, off, cap, e1, e2, e3, hc⟩
  · exact .inl ⟨e1, by simpa using e2⟩
  · refine .inr ⟨g, off, cap, by simpa using e1, e2, e3, by simpa using h.small, fun i k hk => ?_⟩
    have := hc i 0 (.int .i64 k) (by simp [hk])
    simpa using this
def OneInt (xs : List Int) (v : Value) : Prop := ∃ x, v = .int .i64 x ∧ x ∈ xs
set_option maxHeartbeats 400000 in
theorem pick_calls (B N lo : Nat) (v : Value) (ks : List Int) (w : World) (hs : St w B N) (hN : N ≤ 4000000) (hv : Ints w lo v ks) (hB : B < lo) (hk : ks ≠ []) :
    Calls Tryz.prog 28 #[.pointer (some ⟨B, 0, none⟩), v] w (Dr B (N + 1) (OneInt ks) w) := by
  rcases ints_at hv with ⟨_, h⟩ | ⟨g, off, cap, rfl, hlo, hg, hn, hc⟩
  · exact absurd h hk
  · have hpos : 0 < ks.length := List.length_pos_iff.2 hk
    clear hv
    go_enter Tryz.func28, Tryz.ntmps28
    go_wp2_with fail
    refine (next_calls B N _ w hs hN (by omega) (by omega)).mono ?_
    rintro e w' ⟨v, ⟨r, rfl, hr⟩, rfl, hs', hg'⟩
    have hr' : r < ks.length := by omega
    have hx : ks[r]? = some ks[r] := List.getElem?_eq_getElem hr'
    have hc' := gb_cell hg' (hc r _ hx) (by omega)
    have hmem : ks[r] ∈ ks := List.getElem_mem hr'
    generalize ks[r] = k at hc' hmem
    clear hc hx
    go_wp2_with fail
    go_ret
    exact ⟨_, ⟨k, rfl, hmem⟩, rfl, hs', hg'⟩
/-- Behind a new block: the answer is one of the world before it. -/
theorem drawn_alloc {T B N : Nat} {P : Value → Prop} {w : World} {o : Obj} {e : Ending} {w' : World} (h : Drawn T B N P (w.alloc o) e w') : Drawn T B N P w e w' := by
  obtain ⟨v, hp, he, hs, hg⟩ := h
  exact ⟨v, hp, he, hs, gb_trans (gb_alloc w o _) hg⟩
set_option maxHeartbeats 400000 in
theorem odd_calls (B N : Nat) (low high : Int) (w : World) (hs : St w B N) (hN : N ≤ 3999000) (h : low ≤ high) (h0 : -1000000 ≤ low) (h1 : high ≤ 1000000) :
    Calls Tryz.prog 92 #[.pointer (some ⟨B, 0, none⟩), .int .i64 low, .int .i64 high] w (Dr B (N + 2) (InRange (-1099511627776) 1099511627776) w) := by
  go_enter Tryz.func92, Tryz.ntmps92
  go_wp2_with fail
  refine (flip_calls B N 12 w hs (by omega) (by omega) (by omega)).mono ?_
  rintro e w1 ⟨v, ⟨b, rfl⟩, rfl, hs1, hg1⟩
  cases b
  · go_wp2_with fail
    refine (range_calls B (N + 1) low high w1 hs1 (by omega) h (by omega) (by omega)).mono ?_
    rintro e w2 ⟨v, ⟨r, rfl, hr0, hr1⟩, rfl, hs2, hg2⟩
    go_wp2_with fail
    go_ret
    exact ⟨_, ⟨r, rfl, by omega, by omega⟩, rfl, hs2, gb_trans hg1 hg2⟩
  · go_wp2_with fail
    have hi := ints_new w1 [low - 1, high + 1, low, high, -1099511627776, 1099511627776] (by simp)
    refine (pick_calls B (N + 1) w1.heap.size _ [low - 1, high + 1, low, high, -1099511627776, 1099511627776] _ (hs1.alloc _) (by omega) hi hs1.lt (by simp)).mono ?_
    rintro e w2 ⟨v, ⟨r, rfl, hr⟩, rfl, hs2, hg2⟩
    have hr' : -1099511627776 ≤ r ∧ r ≤ 1099511627776 := by
      simp only [List.mem_cons, List.not_mem_nil, or_false] at hr
      omega
    clear hr hi
    go_wp2_with fail
    go_ret
    exact ⟨_, ⟨r, rfl, hr'.1, hr'.2⟩, rfl, hs2, gb_trans hg1 (gb_trans (gb_alloc w1 _ _) hg2)⟩
set_option maxHeartbeats 400000 in
theorem aweek_calls (B N : Nat) (w : World) (hs : St w B N) (hN : N ≤ 3999000) :
    Calls Tryz.prog 11 #[.pointer (some ⟨B, 0, none⟩)] w (Dr B (N + 1) (InRange 0 61) w) := by
  go_enter Tryz.func11, Tryz.ntmps11
  go_wp2_with fail
  have hi := ints_new w [1, 2, 2, 3, 3, 4, 5, 60, 0, 61] (by decide)
  refine (pick_calls B N w.heap.size _ [1, 2, 2, 3, 3, 4, 5, 60, 0, 61] _ (hs.alloc _) (by omega) hi hs.lt (by simp)).mono ?_
  rintro e w2 ⟨v, ⟨r, rfl, hr⟩, rfl, hs2, hg2⟩
  have hr' : 0 ≤ r ∧ r ≤ 61 := by
    simp only [List.mem_cons, List.not_mem_nil, or_false] at hr
    omega
  clear hr hi
  go_wp2_with fail
  go_ret
  exact ⟨_, ⟨r, rfl, hr'.1, hr'.2⟩, rfl, hs2, gb_trans (gb_alloc w _ _) hg2⟩
end Go.Proofs.YtmjkbmkjnbpgeaaGreatDoor
namespace Go.Proofs.YtmjkbmkjnbpgeaaGreatDoor
open Go.RowKit

theorem info_str : (Tryz.prog.info? 9).map (fun i => (i.zero, i.size, i.bytes)) = some (some (.string ⟨#[]⟩), 1, 16) := by kernel_rfl

def S_df : ByteArray := ⟨#[100, 102]⟩
def S_fw : ByteArray := ⟨#[102, 119]⟩
def S_gk : ByteArray := ⟨#[103, 107]⟩
def S_mf : ByteArray := ⟨#[109, 102]⟩
def spotKeys : List ByteArray := [S_df, S_fw, S_gk, S_mf]

/-- A slice of strings out of some, in new memory from lo on. -/
def StrsOf (lo m : Nat) (from_ : List ByteArray) (w : World) (v : Value) : Prop := ∃ ks, Strs w lo v ks ∧ ks.length ≤ m ∧ ∀ k ∈ ks, k ∈ from_

/-- What a maker answers: a value that has P in the world behind it; the stream has moved on. -/
def Made (B N : Nat) (P : World → Value → Prop) (w : World) (e : Ending) (w' : World) : Prop := ∃ v, P w' v ∧ e = .returned v ∧ St w' B N ∧ w.grownBy w' (some B)

set_option maxRecDepth 100000 in
set_option maxHeartbeats 1000000 in
theorem spots_calls (B N : Nat) (w : World) (hs : St w B N) (hN : N ≤ 3999000) :
    Calls Tryz.prog 143 #[.pointer (some ⟨B, 0, none⟩)] w (Made B (N + 5) (StrsOf w.heap.size 4 spotKeys) w) := by
  obtain ⟨i0, hi, hz0, hz1, hz2⟩ := info_parts info_str
  go_enter Tryz.func143, Tryz.ntmps143
  go_wp2_with fail
  go_loopw [3, 8] (fun out i wr => ∃ (j : Nat) (ks : List ByteArray), j ≤ 4 ∧ i = .int .i64 j ∧ ks.length ≤ j ∧ (∀ k ∈ ks, k ∈ spotKeys) ∧ wr.ownsRow (w.heap.size + 1) 9 1 out ks.length (ks.map .string) ∧ St wr B (N + j) ∧ w.grownBy wr (some B) ∧
      wr.heap[w.heap.size]? = some (.cells #[.string S_df, .string S_fw, .string S_gk, .string S_mf] 9 (0, 0))) (fun _ i _ => 4 - (intOf i).toNat)
  case atStart =>
    exact ⟨0, [], by omega, rfl, by simp, by simp, World.ownsRow_nil _ _ _ _, hs.alloc _, gb_alloc w _ _, heap_alloc_new w _⟩
  case round =>
    obtain ⟨j, ks, hj, rfl, hkl, hks, hown, hsr, hg, hk⟩ := hrel
    by_cases hlt : j < 4
    · have hcell : ∃ k, k ∈ spotKeys ∧ wr.cell? ⟨w.heap.size, j, none⟩ = some (.string k) := by
        rw [cell_of_row wr _ _ _ _ _ hk]
        match j, hlt with
        | 0, _ => exact ⟨S_df, by simp [spotKeys], rfl⟩
        | 1, _ => exact ⟨S_fw, by simp [spotKeys], rfl⟩
        | 2, _ => exact ⟨S_gk, by simp [spotKeys], rfl⟩
        | 3, _ => exact ⟨S_mf, by simp [spotKeys], rfl⟩
      obtain ⟨k, hkm, hcell⟩ := hcell
      have Hk := Lib.hid hk
      have Hkm := Lib.hid hkm
      have Hks := Lib.hid hks
      clear hk hkm hks
      go_wp2_with fail
      refine (flip_calls B (N + j) 3 wr hsr (by omega) (by omega) (by omega)).mono ?_
      rintro e w1 ⟨v, ⟨b, rfl⟩, rfl, hs1, hg1⟩
      have hown1 := hown.kept hg1 (by right; intro e; have := (own_block hown B e).1; have := hs.lt; omega)
      have hk1 : w1.heap[w.heap.size]? = some (.cells #[.string S_df, .string S_fw, .string S_gk, .string S_mf] 9 (0, 0)) := (hg1.block _ (lt_of_heap Hk.out) (by have := hs.lt; simp; omega)).trans Hk.out
      have Hk1 := Lib.hid hk1
      clear hk1
      cases b
      · go_wp2_with fail
        go_roundw
        case rel => exact ⟨j + 1, ks, by omega, by go_num, by omega, Hks.out, hown1, hs1, gb_trans hg hg1, Hk1.out⟩
        case measure => simp [intOf]; omega
      · go_wp2_with (at_builtin; refine wpList_append_own _ rfl _ _ 35 rfl (w.heap.size + 1) 9 i0 (.string ⟨#[]⟩) 1 16 Tryz.underlying35 hi hz0 hz1 hz2 rfl (by decide) _ _ _ rfl (hown1.alloc _) ⟨w1.heap.size, 0, none⟩ 1 1 [.string k] rfl rfl ?c1 ?c2 ?c3 ?c4 ?c5 ?_)
        case c1 => exact cell_one_new _ _ _
        case c2 => simp [Value.oneCell']
        case c3 => unfold maxLen; omega
        case c4 => omega
        case c5 => have := hg.size; have := hg1.size; have := lt_of_heap Hk.out; simp; omega
        intro v' w2 hown2 hgrow _
        go_wp2_with fail
        go_roundw
        case rel =>
          refine ⟨j + 1, ks ++ [k], by omega, by go_num, by simp; omega, ?_, by simpa using hown2, ?_, ?_, ?_⟩
          · intro x hx; rcases List.mem_append.1 hx with h | h
            · exact Hks.out x h
            · obtain rfl := List.mem_singleton.1 h; exact Hkm.out
          · exact (hs1.alloc _).grown hgrow fun r hr => by have := (own_block hown1 r hr).1; have := hs.lt; omega
          · exact gb_then (gb_trans hg (gb_trans hg1 (gb_alloc w1 _ _))) hgrow fun r hr => by have := (own_block hown1 r hr).1; omega
          · exact (hgrow.block _ (by have := lt_of_heap Hk1.out; simp; omega) fun e => by have := (own_block hown1 _ e.symm).1; omega).trans ((heap_alloc_old w1 _ (lt_of_heap Hk1.out)).trans Hk1.out)
        case measure => simp [intOf]; omega
    · obtain rfl : j = 4 := by omega
      have hR : Strs wr w.heap.size u3 ks := (strs_of_owns hown (by omega)).mono (by omega)
      obtain ⟨a, c, hv⟩ := owns_shape hown
      have HR := Lib.hid hR
      have Hks := Lib.hid hks
      clear hk hown hR hks hi hz0 hz1 hz2
      rw [hv] at HR ⊢
      by_cases hz : ks.length = 0
      · have hne : ((ks.length : Int) == 0) = true := by rw [beq_iff_eq]; omega
        rw [hz]
        clear hne hv
        go_wp2_with fail
        have hn := strs_new wr [S_df, S_gk, S_mf] (by decide)
        refine (some_calls B (N + 4) wr.heap.size _ [S_df, S_gk, S_mf] _ (hsr.alloc _) (by omega) hn hsr.lt (by simp)).mono ?_
        rintro e w1 ⟨v, ⟨k, rfl, hk⟩, rfl, hs1, hg1⟩
        go_wp2_with fail
        go_ret
        exact ⟨_, ⟨[k], (strs_new w1 [k] (by simp)).mono (by have := hg.size; have := hg1.size; simp at this; omega), by simp, fun x hx => by
          obtain rfl := List.mem_singleton.1 hx
          revert hk; simp only [spotKeys, List.mem_cons, List.not_mem_nil, or_false]; rintro (h | h | h) <;> simp [h]⟩, rfl, hs1.alloc _, gb_trans hg (gb_trans (gb_alloc wr _ _) (gb_trans hg1 (gb_alloc w1 _ _)))⟩
      · have hne : ((ks.length : Int) == 0) = false := by rw [beq_eq_false_iff_ne]; omega
        clear hv
        go_wp2_with fail
        go_ret
        exact ⟨_, ⟨ks, HR.out, by omega, Hks.out⟩, rfl, hsr.mono (by omega), hg⟩
def K_ann : ByteArray := ⟨#[97, 110, 110]⟩
def K_bea : ByteArray := ⟨#[98, 101, 97]⟩
def K_cid : ByteArray := ⟨#[99, 105, 100]⟩
def K_dan : ByteArray := ⟨#[100, 97, 110]⟩
def K_eve : ByteArray := ⟨#[101, 118, 101]⟩
def fiveKeys : List ByteArray := [K_ann, K_bea, K_cid, K_dan, K_eve]
def NM_0 : ByteArray := ⟨#[77, 97, 114, 121, 32, 74, 111, 32, 83, 109, 105, 116, 104]⟩
def NM_1 : ByteArray := ⟨#[77, 97, 120, 32, 77, 97, 114, 116, 105, 110]⟩
def NM_2 : ByteArray := ⟨#[74, 111]⟩
def NM_3 : ByteArray := ⟨#[65, 110, 97, 32, 77, 97, 114, 105, 97, 32, 77, 97]⟩
def NM_4 : ByteArray := ⟨#[79, 39, 78, 101, 105, 108, 32, 109]⟩
def NM_5 : ByteArray := ⟨#[90, 111, 195, 171, 32, 77, 97]⟩
def sixNames : List ByteArray := [NM_0, NM_1, NM_2, NM_3, NM_4, NM_5]

theorem info_pl : (Tryz.prog.info? 86).map (fun i => (i.zero, i.size, i.bytes)) = some (some (.agg #[.string ⟨#[]⟩, .string ⟨#[]⟩, .slice none 0 0]), 3, 56) := by kernel_rfl

/-- The cells of some players. -/
def plRows (ps : List PD) (pvs : List Value) : List (List Value) := List.zipWith (fun (p : PD) (x : Value) => [.string p.key, .string p.name, x]) ps pvs
theorem plRows_length {ps : List PD} {pvs : List Value} (h : pvs.length = ps.length) : (plRows ps pvs).length = ps.length := by simp [plRows, h]
theorem plRows_snoc {ps : List PD} {pvs : List Value} (h : pvs.length = ps.length) (p : PD) (x : Value) : plRows (ps ++ [p]) (pvs ++ [x]) = plRows ps pvs ++ [[.string p.key, .string p.name, x]] := by
  unfold plRows; rw [List.zipWith_append h.symm]; rfl
theorem plRows_each (ps : List PD) (pvs : List Value) : ∀ r ∈ plRows ps pvs, r.length = 3 := by
  intro r hr
  obtain ⟨i, hi⟩ := List.getElem?_of_mem hr
  unfold plRows at hi
  rw [List.getElem?_zipWith] at hi
  split at hi <;> simp at hi
  subst hi; rfl
/-- A slice of players that the call made itself. -/
def OwnPs (w : World) (base : Nat) (v : Value) (ps : List PD) : Prop :=
  ∃ pvs : List Value, pvs.length = ps.length ∧ w.ownsRow base 86 3 v ps.length (plRows ps pvs).flatten ∧ ∀ (i : Nat) (x : Value) (p : PD), pvs[i]? = some x → ps[i]? = some p → Strs w base x p.pos
theorem OwnPs.plays {w : World} {base : Nat} {v : Value} {ps : List PD} (h : OwnPs w base v ps) (hn : ps.length ≤ 1000000) : Plays w base v ps := by
  obtain ⟨pvs, h1, h2, h3⟩ := h
  exact ⟨pvs, h1, Rows.of_owns (by rw [show (List.zipWith _ ps pvs).length = ps.length from plRows_length h1]; exact h2) (by rw [show (List.zipWith _ ps pvs).length = ps.length from plRows_length h1]; exact hn) (plRows_each ps pvs), h3⟩
/-- It stays where another block changes that holds neither players nor strings. -/
theorem OwnPs.row {w w' : World} {base : Nat} {v : Value} {ps : List PD} {B : Nat} {cur : Array Value} {T : Nat} {fr : Nat × Nat} (h : OwnPs w base v ps) (hg : w.grownBy w' (some B)) (hB : w.heap[B]? = some (.cells cur T fr))
    (h1 : T ≠ 86) (h2 : T ≠ 9) : OwnPs w' base v ps := by
  obtain ⟨pvs, a, b, c⟩ := h
  refine ⟨pvs, a, b.kept hg (by
    right; intro e; obtain ⟨_, cur', h⟩ := own_block b B e; rw [hB] at h; cases h; exact h1 rfl), fun i x p hx hp => (c i x p hx hp).row hg fun r hr => ⟨cur, T, fr, by cases hr; exact hB, h2⟩⟩
theorem OwnPs.below {w w' : World} {base : Nat} {v : Value} {ps : List PD} (h : OwnPs w base v ps) (hb : Below w.heap.size w w') : OwnPs w' base v ps := by
  obtain ⟨pvs, a, b, c⟩ := h
  exact ⟨pvs, a, b.kept (gb_below hb none) (by cases hv : v.ownBlock <;> simp), fun i x p hx hp => (c i x p hx hp).below hb⟩
theorem OwnPs.mono {w : World} {base base' : Nat} {v : Value} {ps : List PD} (h : OwnPs w base v ps) (hb : base' ≤ base) : OwnPs w base' v ps := by
  obtain ⟨pvs, a, b, c⟩ := h
  refine ⟨pvs, a, ⟨b.1, ?_⟩, fun i x p hx hp => (c i x p hx hp).mono hb⟩
  rcases b.2 with h | ⟨g, cap, cur, e, hg, rest⟩
  · exact .inl h
  · exact .inr ⟨g, cap, cur, e, Nat.le_trans hb hg, rest⟩
theorem OwnPs.alloc {w : World} {base : Nat} {v : Value} {ps : List PD} (h : OwnPs w base v ps) (o : Obj) : OwnPs (w.alloc o) base v ps := by
  obtain ⟨pvs, a, b, c⟩ := h
  exact ⟨pvs, a, b.alloc o, fun i x p hx hp => (c i x p hx hp).below (below_alloc w o)⟩
theorem st_cells {w : World} {B N : Nat} (h : St w B N) : ∃ cur, w.heap[B]? = some (.cells cur 25 (0, 0)) := by
  obtain ⟨lv, k, h, _⟩ := h
  exact ⟨_, h⟩
theorem strs_shape {w : World} {lo : Nat} {v : Value} {ks : List ByteArray} (h : Strs w lo v ks) : ∃ a c, v = .slice a ks.length c := by
  rcases strs_at h with ⟨rfl, rfl⟩ | ⟨g, off, cap, rfl, _⟩
  · exact ⟨none, 0, rfl⟩
  · exact ⟨_, _, rfl⟩
/-- What the makers put into a player. -/
def GoodP (p : PD) : Prop := p.key ∈ fiveKeys ∧ p.name ∈ sixNames ∧ p.pos.length ≤ 4 ∧ ∀ k ∈ p.pos, k ∈ spotKeys
def RightPs (lo : Nat) (w : World) (v : Value) : Prop := ∃ ps, OwnPs w lo v ps ∧ ps.length ≤ 5 ∧ ∀ p ∈ ps, GoodP p

set_option maxRecDepth 100000 in
set_option maxHeartbeats 1000000 in
theorem rightPlayers_calls (B N : Nat) (w : World) (hs : St w B N) (hN : N ≤ 3998000) :
    Calls Tryz.prog 65 #[.pointer (some ⟨B, 0, none⟩)] w (Made B (N + 40) (RightPs w.heap.size) w) := by
  obtain ⟨i0, hi, hz0, hz1, hz2⟩ := info_parts info_pl
  go_enter Tryz.func65, Tryz.ntmps65
  go_wp2_with fail
  go_loopw [3, 8] (fun out i wr => ∃ (j : Nat) (ps : List PD), j ≤ 5 ∧ i = .int .i64 j ∧ ps.length ≤ j ∧ (∀ p ∈ ps, GoodP p) ∧ OwnPs wr (w.heap.size + 1) out ps ∧ St wr B (N + 7 * j) ∧ w.grownBy wr (some B) ∧
      wr.heap[w.heap.size]? = some (.cells #[.string K_ann, .string K_bea, .string K_cid, .string K_dan, .string K_eve] 9 (0, 0))) (fun _ i _ => 5 - (intOf i).toNat)
  case atStart =>
    exact ⟨0, [], by omega, rfl, by simp, by simp, ⟨[], rfl, World.ownsRow_nil _ _ _ _, by simp⟩, hs.alloc _, gb_alloc w _ _, heap_alloc_new w _⟩
  case round =>
    obtain ⟨j, ps, hj, rfl, hpl, hps, hown, hsr, hg, hk⟩ := hrel
    have Hps := Lib.hid hps
    clear hps
    by_cases hlt : j < 5
    · have hcell : ∃ k, k ∈ fiveKeys ∧ wr.cell? ⟨w.heap.size, j, none⟩ = some (.string k) := by
        rw [cell_of_row wr _ _ _ _ _ hk]
        match j, hlt with
        | 0, _ => exact ⟨K_ann, by simp [fiveKeys], rfl⟩
        | 1, _ => exact ⟨K_bea, by simp [fiveKeys], rfl⟩
        | 2, _ => exact ⟨K_cid, by simp [fiveKeys], rfl⟩
        | 3, _ => exact ⟨K_dan, by simp [fiveKeys], rfl⟩
        | 4, _ => exact ⟨K_eve, by simp [fiveKeys], rfl⟩
      obtain ⟨k, hkm, hcell⟩ := hcell
      have Hk := Lib.hid hk
      have Hkm := Lib.hid hkm
      clear hk hkm
      have hBw := hs.lt
      go_wp2_with fail
      refine (flip_calls B (N + 7 * j) 8 wr hsr (by omega) (by omega) (by omega)).mono ?_
      rintro e w1 ⟨v, ⟨b, rfl⟩, rfl, hs1, hg1⟩
      obtain ⟨curB, hB⟩ := st_cells hsr
      have hown1 := hown.row hg1 hB (by decide) (by decide)
      have Hk1 := Lib.hid ((hg1.block _ (lt_of_heap Hk.out) (by simp; omega)).trans Hk.out)
      clear hB hown
      cases b
      · go_wp2_with fail
        have hn := strs_new w1 sixNames (by decide)
        refine (some_calls B (N + 7 * j + 1) w1.heap.size _ sixNames _ (hs1.alloc _) (by omega) hn hs1.lt (by simp [sixNames])).mono ?_
        rintro e w2 ⟨v, ⟨nm, rfl, hnm⟩, rfl, hs2, hg2⟩
        have Hnm := Lib.hid hnm
        clear hnm hn
        go_wp2_with fail
        refine (spots_calls B (N + 7 * j + 2) w2 hs2 (by omega)).mono ?_
        rintro e w3 ⟨pv, ⟨qs, hq, hql, hqs⟩, rfl, hs3, hg3⟩
        obtain ⟨qa, qc, rfl⟩ := strs_shape hq
        obtain ⟨cur1, hB1⟩ := st_cells hs1
        obtain ⟨cur2, hB2⟩ := st_cells hs2
        have hown3 := ((hown1.alloc (.cells #[.string NM_0, .string NM_1, .string NM_2, .string NM_3, .string NM_4, .string NM_5] 9)).row hg2 ((heap_alloc_old w1 _ (lt_of_heap hB1)).trans hB1) (by decide) (by decide)).row hg3 hB2 (by decide) (by decide)
        have hk2 := (hg2.block _ (by have := lt_of_heap Hk1.out; simp; omega) (by simp; omega)).trans ((heap_alloc_old w1 _ (lt_of_heap Hk1.out)).trans Hk1.out)
        have Hk3 := Lib.hid ((hg3.block _ (lt_of_heap hk2) (by simp; omega)).trans hk2)
        obtain ⟨pvs, hpv, hrow, hpos⟩ := hown3
        have hpos' : ∀ (i : Nat) (x : Value) (p : PD), (pvs ++ [Value.slice qa qs.length qc])[i]? = some x → (ps ++ [⟨k, nm, qs⟩])[i]? = some p → Strs w3 (w.heap.size + 1) x p.pos := by
          intro i x p hx hp
          by_cases hi : i < ps.length
          · rw [List.getElem?_append_left (by omega)] at hx
            rw [List.getElem?_append_left hi] at hp
            exact hpos i x p hx hp
          · have hi2 : i = ps.length := by have := (List.getElem?_eq_some_iff.1 hp).1; simp at this; omega
            subst hi2
            rw [List.getElem?_append_right (by omega), hpv] at hx
            rw [List.getElem?_append_right (by omega)] at hp
            simp at hx hp
            subst hx hp
            exact hq.mono (by have := hg.size; have := hg1.size; have := hg2.size; have := lt_of_heap Hk.out; simp at *; omega)
        have Hpos := Lib.hid hpos'
        have Hq := Lib.hid hqs
        clear hpos hpos' hqs hq hk2 hB1 hB2
        go_wp2_with (at_builtin; refine wpList_append_own _ rfl _ _ 26 rfl (w.heap.size + 1) 86 i0 (.agg #[.string ⟨#[]⟩, .string ⟨#[]⟩, .slice none 0 0]) 3 56 Tryz.underlying26 hi hz0 hz1 hz2 rfl (by decide) _ _ _ rfl (hrow.alloc _) ⟨w3.heap.size, 0, none⟩ 1 1 [.string k, .string nm, .slice qa qs.length qc] rfl rfl ?c1 ?c2 ?c3 ?c4 ?c5 ?_)
        case c1 => exact cell_three_new _ _ _ _ _
        case c2 => simp [Value.oneCell']
        case c3 => unfold maxLen; omega
        case c4 => omega
        case c5 => have := lt_of_heap Hk3.out; simp; omega
        intro v' w4 hown4 hgrow _
        go_wp2_with fail
        go_roundw
        case rel =>
          refine ⟨j + 1, ps ++ [⟨k, nm, qs⟩], by omega, by go_num, by simp; omega, ?_, ⟨pvs ++ [Value.slice qa qs.length qc], by simp [hpv], ?_, ?_⟩, ?_, ?_, ?_⟩
          · intro x hx; rcases List.mem_append.1 hx with h | h
            · exact Hps.out x h
            · obtain rfl := List.mem_singleton.1 h; exact ⟨Hkm.out, Hnm.out, hql, Hq.out⟩
          · rw [plRows_snoc hpv]; simpa using hown4
          · exact fun i x p hx hp => ((Hpos.out i x p hx hp).below (below_alloc w3 _)).row hgrow fun r hr => by
              obtain ⟨_, cur, h⟩ := own_block (hrow.alloc _) r hr
              exact ⟨cur, _, _, h, by decide⟩
          · exact ((hs3.alloc _).grown hgrow fun r hr => by have := (own_block hrow r hr).1; omega).mono (by omega)
          · exact gb_then (gb_trans hg (gb_trans hg1 (gb_trans (gb_alloc w1 _ _) (gb_trans hg2 (gb_trans hg3 (gb_alloc w3 _ _)))))) hgrow fun r hr => by have := (own_block hrow r hr).1; omega
          · exact (hgrow.block _ (by have := lt_of_heap Hk3.out; simp; omega) fun e => by have := (own_block hrow _ e.symm).1; omega).trans ((heap_alloc_old w3 _ (lt_of_heap Hk3.out)).trans Hk3.out)
        case measure => simp [intOf]; omega
      · go_wp2_with fail
        go_roundw
        case rel => exact ⟨j + 1, ps, by omega, by go_num, by omega, Hps.out, hown1, hs1.mono (by omega), gb_trans hg hg1, Hk1.out⟩
        case measure => simp [intOf]; omega
    · obtain rfl : j = 5 := by omega
      clear hk
      go_wp2_with fail
      go_ret
      exact ⟨_, ⟨ps, hown.mono (by omega), by omega, Hps.out⟩, rfl, hsr.mono (by omega), hg⟩

/-- A slice of strings that the call made itself. -/
def OwnS (w : World) (base : Nat) (v : Value) (ks : List ByteArray) : Prop := w.ownsRow base 9 1 v ks.length (ks.map .string)

set_option maxRecDepth 100000 in
set_option maxHeartbeats 1000000 in
theorem clone_calls (lo : Nat) (v : Value) (ks : List ByteArray) (w : World) (hv : Strs w lo v ks) :
    Calls Tryz.prog 67 #[v] w fun e w' => ∃ v', OwnS w' w.heap.size v' ks ∧ e = .returned v' ∧ Below w.heap.size w w' := by
  obtain ⟨i0, hi, hz0, hz1, hz2⟩ := info_parts info_str
  have hnil := fun a n c => Lib.run_eql_slice_nil (P := Tryz.prog) w 35 9 a n c 0 0 Tryz.underlying35
  rcases strs_at hv with ⟨rfl, rfl⟩ | ⟨g, off, cap, rfl, hlo, hg, hn, hc⟩
  · clear hv hi hz0 hz1 hz2
    go_enter Tryz.func67, Tryz.ntmps67
    go_wp2_with fail
    go_ret
    exact ⟨_, World.ownsRow_nil _ _ _ _, rfl, Below.refl _ _⟩
  · clear hv
    have hown : OwnS (w.alloc (.cells #[] 9)) w.heap.size (.slice (some ⟨w.heap.size, 0, none⟩) 0 0) [] := World.ownsRow_made w #[] 0 (Nat.le_refl _) (by unfold maxLen; omega) rfl
    have hnews : ∀ j u, (ks.map Value.string)[j]? = some u → (w.alloc (.cells #[] 9)).cell? ((⟨g, off, none⟩ : Addr).add j) = some u := by
      intro j u hu
      have hadd : (⟨g, off, none⟩ : Addr).add j = ⟨g, off + j, none⟩ := by unfold Addr.add; split <;> simp_all
      rw [hadd, World.cell?_alloc_past _ _ _ hg]
      rw [List.getElem?_map] at hu
      cases hk : ks[j]? with
      | none => simp [hk] at hu
      | some k => rw [hk] at hu; simp at hu; subst hu; exact hc j k hk
    have Hn := Lib.hid hnews
    clear hnews hc
    go_enter Tryz.func67, Tryz.ntmps67
    go_wp2_with (at_builtin; refine wpList_append_own _ rfl _ _ 35 rfl w.heap.size 9 i0 (.string ⟨#[]⟩) 1 16 Tryz.underlying35 hi hz0 hz1 hz2 rfl (by decide) _ 0 [] rfl hown ⟨g, off, none⟩ ks.length cap (ks.map .string) rfl (by simp) Hn.out ?c2 ?c3 ?c4 ?c5 ?_)
    case c2 => intro u hu; obtain ⟨k, _, rfl⟩ := List.mem_map.1 hu; rfl
    case c3 => unfold maxLen; omega
    case c4 => omega
    case c5 => simp
    intro v' w4 hown4 hgrow _
    go_wp2_with fail
    go_ret
    exact ⟨_, by simpa [OwnS] using hown4, rfl, (below_alloc w _).grown hgrow (by simp) fun r hr => by cases hr; exact Nat.le_refl _⟩
def BN_0 : ByteArray := ⟨#[]⟩
def BN_1 : ByteArray := ⟨#[32, 120]⟩
def BN_2 : ByteArray := ⟨#[120, 32, 32, 121]⟩
def BN_3 : ByteArray := ⟨#[120, 9, 121]⟩
def BN_4 : ByteArray := ⟨#[255]⟩
def BN_5 : ByteArray := ⟨#[120, 32]⟩
def badNames : List ByteArray := [BN_0, BN_1, BN_2, BN_3, BN_4, BN_5]
def K_none : ByteArray := ⟨#[]⟩
def K_A : ByteArray := ⟨#[65]⟩
def K_a : ByteArray := ⟨#[97]⟩
def K_zz : ByteArray := ⟨#[122, 122]⟩
/-- What a player can have who comes out of Players. -/
def AnyP (p : PD) : Prop := p.key ∈ fiveKeys ++ [K_none, K_A] ∧ p.name ∈ sixNames ++ badNames ∧ p.pos.length ≤ 5 ∧ ∀ k ∈ p.pos, k ∈ spotKeys ++ [K_a, K_none, K_zz]
theorem GoodP.any {p : PD} (h : GoodP p) : AnyP p :=
  ⟨List.mem_append_left _ h.1, List.mem_append_left _ h.2.1, by have := h.2.2.1; omega, fun k hk => List.mem_append_left _ (h.2.2.2 k hk)⟩

theorem plRows_set {ps : List PD} {pvs : List Value} (h : pvs.length = ps.length) (i : Nat) (p : PD) (x : Value) : plRows (ps.set i p) (pvs.set i x) = (plRows ps pvs).set i [.string p.key, .string p.name, x] := by
  unfold plRows
  apply List.ext_getElem?
  intro j
  rw [List.getElem?_zipWith, List.getElem?_set, List.getElem?_set, List.getElem?_set, List.length_zipWith, List.getElem?_zipWith, h]
  by_cases hij : i = j
  · subst hij
    by_cases hl : i < ps.length <;> simp [hl]
  · simp [hij]
theorem set_same {α : Type} (l : List α) (i : Nat) (x : α) (h : l[i]? = some x) : l.set i x = l := by
  apply List.ext_getElem?
  intro j
  rw [List.getElem?_set]
  by_cases hij : i = j
  · subst hij
    have := (List.getElem?_eq_some_iff.1 h).1
    rw [if_pos rfl, if_pos this]; exact h.symm
  · simp [hij]
/-- One field of a player is written. -/
theorem plays_set {w : World} {lo g off n cap i : Nat} {ps : List PD} {p : PD} (h : Plays w lo (.slice (some ⟨g, off, none⟩) n cap) ps) (hp : ps[i]? = some p) :
    (∀ k, Plays (w.setCell ⟨g, off + i * 3, none⟩ (.string k)) lo (.slice (some ⟨g, off, none⟩) n cap) (ps.set i { p with key := k })) ∧
    (∀ k, Plays (w.setCell ⟨g, off + i * 3 + 1, none⟩ (.string k)) lo (.slice (some ⟨g, off, none⟩) n cap) (ps.set i { p with name := k })) ∧
    (∀ x qs, Strs w lo x qs → Plays (w.setCell ⟨g, off + i * 3 + 2, none⟩ x) lo (.slice (some ⟨g, off, none⟩) n cap) (ps.set i { p with pos := qs })) := by
  obtain ⟨pvs, hl, hr, hpos⟩ := h
  have hi : i < ps.length := (List.getElem?_eq_some_iff.1 hp).1
  obtain ⟨y, hy⟩ : ∃ y, pvs[i]? = some y := ⟨pvs[i]'(by omega), List.getElem?_eq_getElem (by omega)⟩
  have hrow : (plRows ps pvs)[i]? = some [.string p.key, .string p.name, y] := by unfold plRows; rw [List.getElem?_zipWith, hp, hy]
  have hg : ∃ cur fr, w.heap[g]? = some (.cells cur 86 fr) := by
    rcases hr.shape with ⟨h1, _⟩ | ⟨g', off', cap', cur, fr, e, h2, h3, h4⟩
    · simp at h1
    · simp only [Value.slice.injEq, Option.some.injEq, Addr.mk.injEq, and_true] at e
      obtain ⟨⟨rfl, _⟩, _⟩ := e
      exact ⟨cur, fr, h3⟩
  obtain ⟨cur, fr, hg⟩ := hg
  have keep : ∀ (o : Nat) (u x : Value) (ks : List ByteArray), Strs w lo x ks → Strs (w.setCell ⟨g, o, none⟩ u) lo x ks := fun o u x ks hx =>
    hx.row (gb_setCell w g o u) fun r hr => ⟨cur, _, fr, by cases hr; exact hg, by decide⟩
  refine ⟨fun k => ⟨pvs, by simpa using hl, ?_, ?_⟩, fun k => ⟨pvs, by simpa using hl, ?_, ?_⟩, fun x qs hx => ⟨pvs.set i x, by simpa using hl, ?_, ?_⟩⟩
  · have := Rows.set hr hrow (show 0 < 3 by omega) (.string k)
    have e := plRows_set hl i { p with key := k } y
    rw [set_same pvs i y hy] at e
    show Rows _ _ _ _ _ (plRows _ _)
    rw [e]; exact this
  · intro j x q hx hq
    rw [List.getElem?_set] at hq
    split at hq
    · rename_i hij; subst hij; simp at hq; subst hq; exact keep _ _ _ _ (hpos i x p hx hp)
    · exact keep _ _ _ _ (hpos j x q hx hq)
  · have := Rows.set hr hrow (show 1 < 3 by omega) (.string k)
    have e := plRows_set hl i { p with name := k } y
    rw [set_same pvs i y hy] at e
    show Rows _ _ _ _ _ (plRows _ _)
    rw [e]; exact this
  · intro j x q hx hq
    rw [List.getElem?_set] at hq
    split at hq
    · rename_i hij; subst hij; simp at hq; subst hq; exact keep _ _ _ _ (hpos i x p hx hp)
    · exact keep _ _ _ _ (hpos j x q hx hq)
  · have := Rows.set hr hrow (show 2 < 3 by omega) x
    have e := plRows_set hl i { p with pos := qs } x
    show Rows _ _ _ _ _ (plRows _ _)
    rw [e]; exact this
  · intro j z q hz hq
    rw [List.getElem?_set] at hz hq
    split at hq
    · rename_i hij; subst hij
      rw [if_pos rfl] at hz
      simp at hq; simp [hl, hi] at hz
      subst hq hz; exact keep _ _ _ _ hx
    · rename_i hij
      rw [if_neg hij] at hz
      exact keep _ _ _ _ (hpos j z q hz hq)

def AnyPs (lo : Nat) (w : World) (v : Value) : Prop := ∃ ps, Plays w lo v ps ∧ ps.length ≤ 5 ∧ ∀ p ∈ ps, AnyP p
theorem all_set {ps : List PD} {i : Nat} {q : PD} (h : ∀ p ∈ ps, AnyP p) (hq : AnyP q) : ∀ p ∈ ps.set i q, AnyP p := by
  intro p hp
  rcases List.mem_or_eq_of_mem_set hp with hp | rfl
  · exact h p hp
  · exact hq

theorem ownps_block {w : World} {base g off n c : Nat} {ps : List PD} (h : OwnPs w base (.slice (some ⟨g, off, none⟩) n c) ps) : base ≤ g ∧ (∃ cur, w.heap[g]? = some (.cells cur 86 (0, 0))) ∧ ∀ o, w.frozen? ⟨g, o, none⟩ = false := by
  obtain ⟨pvs, _, hr, _⟩ := h
  obtain ⟨h1, cur, h2⟩ := own_block hr g rfl
  exact ⟨h1, ⟨cur, h2⟩, fun o => by simp [World.frozen?, h2]⟩
theorem ownps_shape {w : World} {base : Nat} {v : Value} {ps : List PD} (h : OwnPs w base v ps) : (v = .slice none 0 0 ∧ ps = []) ∨ ∃ g off c, v = .slice (some ⟨g, off, none⟩) ps.length c := by
  obtain ⟨pvs, _, hr, _⟩ := h
  rcases hr.2 with ⟨h1, h2⟩ | ⟨g, cap, _, h1, _⟩
  · exact .inl ⟨h1, List.eq_nil_of_length_eq_zero h2⟩
  · exact .inr ⟨g, 0, cap, h1⟩
/-- The cells of player i. -/
theorem plays_cells {w : World} {lo g off n c i : Nat} {ps : List PD} {p : PD} (h : Plays w lo (.slice (some ⟨g, off, none⟩) n c) ps) (hp : ps[i]? = some p) :
    ∃ pv, w.cell? ⟨g, off + i * 3, none⟩ = some (.string p.key) ∧ w.cell? ⟨g, off + i * 3 + 1, none⟩ = some (.string p.name) ∧ w.cell? ⟨g, off + i * 3 + 2, none⟩ = some pv ∧ Strs w lo pv p.pos := by
  rcases plays_at h with ⟨h, _⟩ | ⟨g', off', c', e, _, _, _, hc⟩
  · simp at h
  · simp only [Value.slice.injEq, Option.some.injEq, Addr.mk.injEq, and_true] at e
    obtain ⟨⟨rfl, rfl⟩, _, rfl⟩ := e
    exact hc i p hp

set_option maxRecDepth 100000 in
set_option maxHeartbeats 2000000 in
theorem players_calls (B N : Nat) (w : World) (hs : St w B N) (hN : N ≤ 3997000) :
    Calls Tryz.prog 8 #[.pointer (some ⟨B, 0, none⟩)] w (Made B (N + 45) (AnyPs w.heap.size) w) := by
  obtain ⟨i0, hi, hz0, hz1, hz2⟩ := info_parts info_str
  have hBw := hs.lt
  go_enter Tryz.func8, Tryz.ntmps8
  go_wp2_with fail
  refine (rightPlayers_calls B N w hs (by omega)).mono ?_
  rintro e w1 ⟨v, ⟨ps, hown, hpl, hgood⟩, rfl, hs1, hg1⟩
  have Hall := Lib.hid fun p hp => (hgood p hp).any
  have Hgd := Lib.hid hgood
  clear hgood
  rcases ownps_shape hown with ⟨rfl, rfl⟩ | ⟨g, off, c, rfl⟩
  · have hP := hown.plays (by simp)
    clear hi hz0 hz1 hz2 hown
    go_wp2_with fail
    go_ret
    exact ⟨_, ⟨[], hP, by simp, by simp⟩, rfl, hs1.mono (by omega), hg1⟩
  by_cases hz : ps.length = 0
  · obtain rfl : ps = [] := List.eq_nil_of_length_eq_zero hz
    have hP := hown.plays (by simp)
    clear hi hz0 hz1 hz2 hz hown
    go_wp2_with fail
    go_ret
    exact ⟨_, ⟨[], hP, by simp, by simp⟩, rfl, hs1.mono (by omega), hg1⟩
  · have hd : (0 : Int) < (ps.length : Int) := by omega
    go_wp2_with fail
    refine (flip_calls B (N + 40) 12 w1 hs1 (by omega) (by omega) (by omega)).mono ?_
    rintro e w2 ⟨v, ⟨b, rfl⟩, rfl, hs2, hg2⟩
    obtain ⟨cur1, hB1⟩ := st_cells hs1
    obtain ⟨cur2, hB2⟩ := st_cells hs2
    have hown2 := hown.row hg2 hB1 (by decide) (by decide)
    cases b
    · have hP2 := hown2.plays (by omega)
      clear hi hz0 hz1 hz2 hown hown2 hB1 hB2
      go_wp2_with fail
      go_ret
      exact ⟨_, ⟨ps, hP2, by omega, Hall.out⟩, rfl, hs2.mono (by omega), gb_trans hg1 hg2⟩
    · clear hown
      go_wp2_with fail
      refine (next_calls B (N + 41) _ w2 hs2 (by omega) (by omega) (by omega)).mono ?_
      rintro e w3 ⟨v, ⟨r, rfl, hr⟩, rfl, hs3, hg3⟩
      obtain ⟨cur3, hB3⟩ := st_cells hs3
      have hown3 := hown2.row hg3 hB2 (by decide) (by decide)
      obtain ⟨p, hpr⟩ : ∃ p, ps[r]? = some p := ⟨ps[r]'(by omega), List.getElem?_eq_getElem (by omega)⟩
      have hAny := Hall.out p (List.mem_of_getElem? hpr)
      have hp4 := (Hgd.out p (List.mem_of_getElem? hpr)).2.2.1
      have Hpr := Lib.hid hpr
      clear hpr hown2
      go_wp2_with fail
      refine (next_calls B (N + 42) 3 w3 hs3 (by omega) (by omega) (by omega)).mono ?_
      rintro e w4 ⟨v, ⟨q, rfl, hq⟩, rfl, hs4, hg4⟩
      have hown4 := hown3.row hg4 hB3 (by decide) (by decide)
      obtain ⟨cur4, hB4⟩ := st_cells hs4
      clear hown3
      have hg14 := gb_trans hg1 (gb_trans hg2 (gb_trans hg3 hg4))
      clear hB1 hB2 hB3 hg1 hg2 hg3 hg4
      obtain ⟨hgb, ⟨cur, hgh⟩, _⟩ := ownps_block hown4
      have hgB : g ≠ B := by omega
      have hend : ∀ (w5 : World) (o : Nat) (u : Value), w.grownBy w5 (some B) → w.grownBy (w5.setCell ⟨g, o, none⟩ u) (some B) := fun w5 o u h => gb_then h (gb_setCell w5 g o u) fun r hr => by cases hr; exact hgb
      have hst : ∀ (w5 : World) (o : Nat) (u : Value), St w5 B (N + 44) → St (w5.setCell ⟨g, o, none⟩ u) B (N + 45) := fun w5 o u h => (h.grown (gb_setCell w5 g o u) fun r hr => by cases hr; omega).mono (by omega)
      obtain rfl | rfl | rfl : q = 0 ∨ q = 1 ∨ q = 2 := by omega
      · go_wp2_with fail
        have hn := strs_new w4 [K_none, K_ann, K_A] (by decide)
        refine (some_calls B (N + 43) w4.heap.size _ [K_none, K_ann, K_A] _ (hs4.alloc _) (by omega) hn hs4.lt (by simp)).mono ?_
        rintro e w5 ⟨v, ⟨k, rfl, hk⟩, rfl, hs5, hg5⟩
        have hown5 := (hown4.alloc (.cells ([K_none, K_ann, K_A].map Value.string).toArray 9)).row hg5 ((heap_alloc_old w4 _ (lt_of_heap hB4)).trans hB4) (by decide) (by decide)
        have hP5 := hown5.plays (by omega)
        obtain ⟨_, _, hfr⟩ := ownps_block hown5
        have hf := hfr (off + r * 3)
        obtain ⟨pv, h0, _⟩ := plays_cells hP5 Hpr.out
        have Hk := Lib.hid hk
        have HP := Lib.hid hP5
        clear hfr hn hk hP5 hown4 hown5 hi hz0 hz1 hz2 hB4 hgh
        go_wp2_with fail
        go_ret
        exact ⟨_, ⟨_, (plays_set HP.out Hpr.out).1 k, by simpa using hpl, all_set Hall.out ⟨by
          have := Hk.out; simp only [fiveKeys, List.mem_append, List.mem_cons, List.not_mem_nil, or_false] at this ⊢; rcases this with h | h | h <;> simp [h], hAny.2⟩⟩, rfl, hst _ _ _ hs5, hend _ _ _ (gb_trans hg14 (gb_trans (gb_alloc w4 _ _) hg5))⟩
      · go_wp2_with fail
        have hn := strs_new w4 badNames (by decide)
        refine (some_calls B (N + 43) w4.heap.size _ badNames _ (hs4.alloc _) (by omega) hn hs4.lt (by simp [badNames])).mono ?_
        rintro e w5 ⟨v, ⟨k, rfl, hk⟩, rfl, hs5, hg5⟩
        have hown5 := (hown4.alloc (.cells (badNames.map Value.string).toArray 9)).row hg5 ((heap_alloc_old w4 _ (lt_of_heap hB4)).trans hB4) (by decide) (by decide)
        have hP5 := hown5.plays (by omega)
        obtain ⟨_, _, hfr⟩ := ownps_block hown5
        have hf := hfr (off + r * 3 + 1)
        obtain ⟨pv, _, h0, _⟩ := plays_cells hP5 Hpr.out
        have Hk := Lib.hid hk
        have HP := Lib.hid hP5
        clear hfr hn hk hP5 hown4 hown5 hi hz0 hz1 hz2 hB4 hgh
        go_wp2_with fail
        go_ret
        exact ⟨_, ⟨_, (plays_set HP.out Hpr.out).2.1 k, by simpa using hpl, all_set Hall.out ⟨hAny.1, List.mem_append_right _ Hk.out, hAny.2.2⟩⟩, rfl, hst _ _ _ hs5, hend _ _ _ (gb_trans hg14 (gb_trans (gb_alloc w4 _ _) hg5))⟩
      · have hP4 := hown4.plays (by omega)
        obtain ⟨pv, _, _, h2, hpos⟩ := plays_cells hP4 Hpr.out
        clear hP4
        go_wp2_with fail
        refine (clone_calls w.heap.size pv p.pos w4 hpos).mono ?_
        rintro e w5 ⟨v', hown', rfl, hb5⟩
        have hs5 := hs4.below hb5
        clear h2 hpos
        go_wp2_with fail
        have hn := strs_new w5 [K_a, K_none, K_zz] (by decide)
        refine (some_calls B (N + 43) w5.heap.size _ [K_a, K_none, K_zz] _ (hs5.alloc _) (by omega) hn hs5.lt (by simp)).mono ?_
        rintro e w6 ⟨v, ⟨k, rfl, hk⟩, rfl, hs6, hg6⟩
        have hB6 := (show w.heap.size ≤ w4.heap.size by exact hg14.size)
        have hg46 := gb_trans (gb_below hb5 (some B)) (gb_trans (gb_alloc w5 _ _) hg6)
        have hBv : ∀ r, v'.ownBlock = some r → w4.heap.size ≤ r := fun r hr => (own_block hown' r hr).1
        have hrow6 := (World.ownsRow.alloc hown' (.cells ([K_a, K_none, K_zz].map Value.string).toArray 9)).kept hg6 (by right; intro e; have := hBv B e; omega)
        have Hk := Lib.hid hk
        clear hn hk
        go_wp2_with (at_builtin; refine wpList_append_own _ rfl _ _ 35 rfl w4.heap.size 9 i0 (.string ⟨#[]⟩) 1 16 Tryz.underlying35 hi hz0 hz1 hz2 rfl (by decide) _ _ _ rfl (hrow6.alloc _) ⟨w6.heap.size, 0, none⟩ 1 1 [.string k] rfl rfl ?c1 ?c2 ?c3 ?c4 ?c5 ?_)
        case c1 => exact cell_one_new _ _ _
        case c2 => simp [Value.oneCell']
        case c3 => have := hAny.2.2.1; unfold maxLen; omega
        case c4 => have := hAny.2.2.1; omega
        case c5 => have := hb5.size; have := hg6.size; simp at *; omega
        intro v7 w7 hown7 hgrow _
        have hg47 := gb_then (gb_trans hg46 (gb_alloc w6 _ _)) hgrow hBv
        have hown47 := hown4.row hg47 hB4 (by decide) (by decide)
        have hs7 : St w7 B (N + 44) := (hs6.alloc _).grown hgrow fun r hr => by have := hBv r hr; omega
        have hP7 := hown47.plays (by omega)
        obtain ⟨_, _, hfr⟩ := ownps_block hown47
        have hf := hfr (off + r * 3 + 2)
        obtain ⟨pv7, _, _, h0, _⟩ := plays_cells hP7 Hpr.out
        have hx : Strs w7 w.heap.size v7 (p.pos ++ [k]) := (strs_of_owns (by simpa using hown7) (by have := hAny.2.2.1; simp; omega)).mono hB6
        obtain ⟨va, vc, rfl⟩ := strs_shape hx
        have HP := Lib.hid hP7
        have Hx := Lib.hid hx
        clear hfr hP7 hx hown47 hown4 hown7 hrow6 hown' hi hz0 hz1 hz2 hB4 hgh
        go_wp2_with fail
        go_ret
        exact ⟨_, ⟨_, (plays_set HP.out Hpr.out).2.2 _ (p.pos ++ [k]) (by simpa using Hx.out), by simpa using hpl, all_set Hall.out ⟨hAny.1, hAny.2.1, by simp; omega, fun x (hx : x ∈ p.pos ++ [k]) => by
          rcases List.mem_append.1 hx with h | h
          · exact hAny.2.2.2 x h
          · obtain rfl := List.mem_singleton.1 h; exact List.mem_append_right _ Hk.out⟩⟩, rfl, hst _ _ _ hs7, hend _ _ _ (gb_trans hg14 hg47)⟩
end Go.Proofs.YtmjkbmkjnbpgeaaGreatDoor
