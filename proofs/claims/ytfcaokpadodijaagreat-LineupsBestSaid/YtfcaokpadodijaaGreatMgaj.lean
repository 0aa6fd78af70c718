/- Walks of what makes players and stints out of the stream. -/
import Derived.Test.YtfcaokpadodijaaGreatMgaf
import Derived.Laws.OwnMore
import Derived.Deep.Onto
namespace Go.Proofs.YtfcaokpadodijaaGreat
open Go.RowKit

theorem info_str : (Tryz.prog.info? 9).map (fun i => (i.zero, i.size, i.bytes)) = some (some (.string ⟨#[]⟩), 1, 16) := by kernel_rfl

def S_df : ByteArray := ⟨#[100, 102]⟩
def S_fw : ByteArray := ⟨#[102, 119]⟩
def S_gk : ByteArray := ⟨#[103, 107]⟩
def S_mf : ByteArray := ⟨#[109, 102]⟩
def spotKeys : List ByteArray := [S_df, S_fw, S_gk, S_mf]

/-- A slice of strings out of some, in new memory from lo on. -/
def StrsOf (lo m : Nat) (from_ : List ByteArray) (w : World) (v : Value) : Prop := ∃ ks : List ByteArray, w.ownsRow lo 9 1 v ks.length (ks.map .string) ∧ ks.length ≤ m ∧ ∀ k ∈ ks, k ∈ from_

/-- What a maker answers: a value that has P in the world behind it; the stream has moved on. -/
def Made (B N : Nat) (P : World → Value → Prop) (w : World) (e : Ending) (w' : World) : Prop := ∃ v, P w' v ∧ e = .returned v ∧ St w' B N ∧ w.grownBy w' (some B)

set_option maxRecDepth 100000 in
set_option maxHeartbeats 1000000 in
theorem spots_calls (B N : Nat) (w : World) (hs : St w B N) (hN : N ≤ 3999000) :
  Calls Tryz.prog 86 #[.pointer (some ⟨B, 0, none⟩)] w (Made B (N + 5) (StrsOf w.heap.size 4 spotKeys) w) := by
 obtain ⟨i0, hi, hz0, hz1, hz2⟩ := info_parts info_str
 go_enter Tryz.func86, Tryz.ntmps86
 go_wp2_with fail
 go_loopw [3, 8] (fun out i wr => ∃ (j : Nat) (ks : List ByteArray), j ≤ 4 ∧ i = .int .i64 j ∧ ks.length ≤ j ∧ (∀ k ∈ ks, k ∈ spotKeys) ∧ wr.ownsRow (w.heap.size + 1) 9 1 out ks.length (ks.map .string) ∧ St wr B (N + j) ∧ w.grownBy wr (some B) ∧
   wr.heap[w.heap.size]? = some (.cells #[.string S_df, .string S_fw, .string S_gk, .string S_mf] 9 (0, 0))) (fun _ i _ => 4 - (intOf i).toNat)
 case atStart =>
  exact ⟨0, [], by omega, rfl, by simp, by simp, World.ownsRow_nil _ _ _ _, hs.alloc _, gb_alloc w _ _, heap_alloc_new w _⟩
 case round =>
  obtain ⟨j, ks, hj, rfl, hkl, hks, hown, hsr, hg, hk⟩ := hrel; by_cases hlt : j < 4
  ·have hcell : ∃ k, k ∈ spotKeys ∧ wr.cell? ⟨w.heap.size, j, none⟩ = some (.string k) := by
    rw [cell_of_row wr _ _ _ _ _ hk]; match j, hlt with
    | 0, _ => exact ⟨S_df, by simp [spotKeys], rfl⟩
    | 1, _ => exact ⟨S_fw, by simp [spotKeys], rfl⟩
    | 2, _ => exact ⟨S_gk, by simp [spotKeys], rfl⟩
    | 3, _ => exact ⟨S_mf, by simp [spotKeys], rfl⟩
   obtain ⟨k, hkm, hcell⟩ := hcell; have Hk := Lib.hid hk; have Hkm := Lib.hid hkm; have Hks := Lib.hid hks; clear hk hkm hks; go_wp2_with fail
   refine (flip_calls B (N + j) 3 wr hsr (by omega) (by omega) (by omega)).mono ?_
   rintro e w1 ⟨v, ⟨b, rfl⟩, rfl, hs1, hg1⟩; have hown1 := hown.kept hg1 (by right; intro e; have := (own_block hown B e).1; have := hs.lt; omega)
   have hk1 : w1.heap[w.heap.size]? = some (.cells #[.string S_df, .string S_fw, .string S_gk, .string S_mf] 9 (0, 0)) := (hg1.block _ (lt_of_heap Hk.out) (by have := hs.lt; simp; omega)).trans Hk.out
   have Hk1 := Lib.hid hk1; clear hk1; cases b
   ·go_wp2_with fail
    go_roundw
    case rel => exact ⟨j + 1, ks, by omega, by go_num, by omega, Hks.out, hown1, hs1, gb_trans hg hg1, Hk1.out⟩
    case measure => simp [intOf]; omega
   ·go_wp2_with (at_builtin; refine wpList_append_own _ rfl _ _ 39 rfl (w.heap.size + 1) 9 i0 (.string ⟨#[]⟩) 1 16 Tryz.underlying39 hi hz0 hz1 hz2 rfl (by decide) _ _ _ rfl (hown1.alloc _) ⟨w1.heap.size, 0, none⟩ 1 1 [.string k] rfl rfl ?c1 ?c2 ?c3 ?c4 ?c5 ?_)
    case c1 => exact cell_one_new _ _ _
    case c2 => simp [Value.oneCell']
    case c3 => unfold maxLen; omega
    case c4 => omega
    case c5 => have := hg.size; have := hg1.size; have := lt_of_heap Hk.out; simp; omega
    intro v' w2 hown2 hgrow _; go_wp2_with fail
    go_roundw
    case rel =>
     refine ⟨j + 1, ks ++ [k], by omega, by go_num, by simp; omega, ?_, by simpa using hown2, ?_, ?_, ?_⟩
     ·intro x hx; rcases List.mem_append.1 hx with h | h
      ·exact Hks.out x h
      ·obtain rfl := List.mem_singleton.1 h; exact Hkm.out
     ·exact (hs1.alloc _).grown hgrow fun r hr => by have := (own_block hown1 r hr).1; have := hs.lt; omega
     ·exact gb_then (gb_trans hg (gb_trans hg1 (gb_alloc w1 _ _))) hgrow fun r hr => by have := (own_block hown1 r hr).1; omega
     ·exact (hgrow.block _ (by have := lt_of_heap Hk1.out; simp; omega) fun e => by have := (own_block hown1 _ e.symm).1; omega).trans ((heap_alloc_old w1 _ (lt_of_heap Hk1.out)).trans Hk1.out)
    case measure => simp [intOf]; omega
  ·obtain rfl : j = 4 := by omega
   have hR := hown.mono (show w.heap.size ≤ w.heap.size + 1 by omega)
   obtain ⟨a, c, hv⟩ := owns_shape hown; have HR := Lib.hid hR; have Hks := Lib.hid hks; clear hk hown hR hks hi hz0 hz1 hz2; rw [hv] at HR ⊢
   by_cases hz : ks.length = 0
   ·have hne : ((ks.length : Int) == 0) = true := by rw [beq_iff_eq]; omega
    rw [hz]; clear hne hv; go_wp2_with fail
    have hn := strs_new wr [S_df, S_gk, S_mf] (by decide)
    refine (some_calls B (N + 4) wr.heap.size _ [S_df, S_gk, S_mf] _ (hsr.alloc _) (by omega) hn hsr.lt (by simp)).mono ?_
    rintro e w1 ⟨v, ⟨k, rfl, hk⟩, rfl, hs1, hg1⟩; go_wp2_with fail
    go_ret
    exact ⟨_, ⟨[k], (World.ownsRow_lit w1 #[.string k] 1 (by have := hg.size; have := hg1.size; simp at this; omega) (by unfold maxLen; omega) rfl), by simp, fun x hx => by
     obtain rfl := List.mem_singleton.1 hx
     revert hk; simp only [spotKeys, List.mem_cons, List.not_mem_nil, or_false]; rintro (h | h | h) <;> simp [h]⟩, rfl, hs1.alloc _, gb_trans hg (gb_trans (gb_alloc wr _ _) (gb_trans hg1 (gb_alloc w1 _ _)))⟩
   ·have hne : ((ks.length : Int) == 0) = false := by rw [beq_eq_false_iff_ne]; omega
    clear hv; go_wp2_with fail
    go_ret
    exact ⟨_, ⟨ks, HR.out, by omega, Hks.out⟩, rfl, hsr.mono (by omega), hg⟩
theorem strs_shape {w : World} {lo : Nat} {v : Value} {ks : List ByteArray} (h : Strs w lo v ks) : ∃ a c, v = .slice a ks.length c := by
 rcases strs_at h with ⟨rfl, rfl⟩ | ⟨g, off, cap, rfl, _⟩
 ·exact ⟨none, 0, rfl⟩
 ·exact ⟨_, _, rfl⟩
end Go.Proofs.YtfcaokpadodijaaGreat
