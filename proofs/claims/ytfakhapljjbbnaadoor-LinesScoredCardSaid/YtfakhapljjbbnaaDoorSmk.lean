/- How statistics, lines and positions are drawn. -/
import Derived.Test.YtfakhapljjbbnaaDoorSco
import Derived.Deep.CutRange
namespace Go.Proofs.YtfakhapljjbbnaaDoor
open Go.RowKit

def E_goal : ByteArray := ⟨#[103, 111, 97, 108]⟩
def E_pass : ByteArray := ⟨#[112, 97, 115, 115]⟩
def E_save : ByteArray := ⟨#[115, 97, 118, 101]⟩
def E_yard : ByteArray := ⟨#[121, 97, 114, 100]⟩
def E_none : ByteArray := ⟨#[]⟩
def E_zz : ByteArray := ⟨#[122, 122]⟩
def E_a : ByteArray := ⟨#[97]⟩
def E_ann : ByteArray := ⟨#[97, 110, 110]⟩
theorem info_st : (Tryd.prog.info? 76).map (fun i => (i.zero, i.size, i.bytes)) = some (some (.agg #[.string ⟨#[]⟩, .int .i64 0]), 2, 24) := by kernel_rfl
theorem info_rl : (Tryd.prog.info? 57).map (fun i => (i.zero, i.size, i.bytes)) = some (some (.agg #[.string ⟨#[]⟩, .string ⟨#[]⟩, .string ⟨#[]⟩, .int .i64 0, .int .i64 0, .int .i64 0, .int .i64 0]), 7, 80) := by kernel_rfl
theorem info_ln : (Tryd.prog.info? 32).map (fun i => (i.zero, i.size, i.bytes)) = some (some (.agg #[.string ⟨#[]⟩, .int .i64 0, .slice none 0 0]), 3, 48) := by kernel_rfl

/-- The positions drawn: five at most. -/
def Posits (lo : Nat) (w : World) (v : Value) : Prop := ∃ ks, Strs w lo v ks ∧ ks.length ≤ 5 ∧ ∀ k ∈ ks, k.size ≤ 1000
set_option maxRecDepth 100000 in
set_option maxHeartbeats 1000000 in
theorem posits_calls (B N : Nat) (w : World) (hs : St w B N) (hN : N ≤ 3990000) :
    Calls Tryd.prog 5 #[.pointer (some ⟨B, 0, none⟩)] w (Made B (N + 7) (Posits w.heap.size) w) := by
  obtain ⟨i0, hi, hz0, hz1, hz2⟩ := info_parts info_str
  have hBw := hs.lt
  go_enter Tryd.func5, Tryd.ntmps5
  go_wp2_with fail
  refine (spots_calls B N w hs (by omega)).mono ?_
  rintro e w1 ⟨v, ⟨ks, hown, hkl, hks⟩, rfl, hs1, hg1⟩
  have Hks := Lib.hid (show ∀ k ∈ ks, k.size ≤ 1000 from fun k hk => small_of' (ks := spotKeys) (by decide) (hks k hk))
  clear hks
  go_wp2_with fail
  refine (flip_calls B (N + 5) 25 w1 hs1 (by omega) (by omega) (by omega)).mono ?_
  rintro e w2 ⟨b, ⟨b, rfl⟩, rfl, hs2, hg2⟩
  have hown2 := own_keep hown hg2 hBw
  clear hown
  cases b
  · go_wp2_with fail
    go_ret
    exact ⟨_, ⟨ks, strs_of_owns hown2 (by omega), by omega, Hks.out⟩, rfl, hs2.mono (by omega), gb_trans hg1 hg2⟩
  · go_wp2_with fail
    refine (some_calls B (N + 6) w2.heap.size _ [E_none, S_df, E_a] _ (hs2.alloc _) (by omega) (strs_new w2 [E_none, S_df, E_a] (by decide)) hs2.lt (by simp)).mono ?_
    rintro e w3 ⟨v, ⟨k, rfl, hk⟩, rfl, hs3, hg3⟩
    have Hk := Lib.hid (small_of' (by decide) hk)
    have hown3 := own_keep (World.ownsRow.alloc hown2 (.cells #[.string E_none, .string S_df, .string E_a] 9)) hg3 hBw
    have hg03 : w.grownBy w3 (some B) := gb_trans hg1 (gb_trans hg2 (gb_trans (gb_alloc w2 _ _) hg3))
    have hsz := hg03.size
    clear hk hown2 hg1 hg2 hg3 hs1 hs2
    go_wp2_with (at_builtin; refine wpList_append_own _ rfl _ _ 28 rfl w.heap.size 9 i0 (.string ⟨#[]⟩) 1 16 Tryd.underlying28 hi hz0 hz1 hz2 rfl (by decide) _ _ _ rfl (hown3.alloc _) ⟨w3.heap.size, 0, none⟩ 1 1 [.string k] rfl rfl ?c1 ?c2 ?c3 ?c4 ?c5 ?_)
    case c1 => exact cells_new _ _ _
    case c2 => simp [Value.oneCell']
    case c3 => unfold maxLen; omega
    case c4 => omega
    case c5 => simp; omega
    intro v' w4 hown4 hgrow _
    go_wp2_with fail
    go_ret

    refine ⟨_, ⟨ks ++ [k], strs_of_owns (by simpa using hown4) (by simp; omega), by simp; omega, fun x hx => ?_⟩, rfl, (hs3.alloc _).grown hgrow fun r hr => ?_, gb_then (gb_trans hg03 (gb_alloc w3 _ _)) hgrow fun r hr => ?_⟩
    · rcases List.mem_append.1 hx with h | h
      · exact Hks.out x h
      · obtain rfl := List.mem_singleton.1 h; exact Hk.out
    · have := (own_block hown3 r hr).1; omega
    · exact (own_block hown3 r hr).1

/-- The statistics drawn: five at most. -/
def SomeTds (lo : Nat) (w : World) (v : Value) : Prop := ∃ ts, Tds w lo v ts ∧ ts.length ≤ 5 ∧ ∀ t ∈ ts, SmallT t
set_option maxRecDepth 100000 in
set_option maxHeartbeats 2000000 in
theorem stats_calls (B N : Nat) (w : World) (hs : St w B N) (hN : N ≤ 3990000) :
    Calls Tryd.prog 27 #[.pointer (some ⟨B, 0, none⟩)] w (Made B (N + 20) (SomeTds w.heap.size) w) := by
  obtain ⟨i0, hi, hz0, hz1, hz2⟩ := info_parts info_st
  have hBw := hs.lt
  go_enter Tryd.func27, Tryd.ntmps27
  go_wp2_with fail
  go_loopw [3, 8] (fun out i wr => ∃ (j : Nat) (ts : List TD), j ≤ 4 ∧ i = .int .i64 j ∧ ts.length ≤ j ∧ Hid (∀ t ∈ ts, SmallT t) ∧ wr.ownsRow (w.heap.size + 1) 76 2 out ts.length (ts.map stRow).flatten ∧ St wr B (N + 2 * j) ∧ w.grownBy wr (some B) ∧
      Hid (wr.heap[w.heap.size]? = some (.cells #[.string E_goal, .string E_pass, .string E_save, .string E_yard] 9 (0, 0)))) (fun _ i _ => 4 - (intOf i).toNat)
  case atStart =>
    exact ⟨0, [], by omega, rfl, by simp, Lib.hid (by simp), World.ownsRow_nil _ _ _ _, hs.alloc _, gb_alloc w _ _, Lib.hid (heap_alloc_new w _)⟩
  case round =>
    obtain ⟨j, ts, hj, rfl, hkl, Hts, hown, hsr, hg, Hk⟩ := hrel
    by_cases hlt : j < 4
    · have hcell : ∃ k, k.size ≤ 1000 ∧ wr.cell? ⟨w.heap.size, j, none⟩ = some (.string k) := by
        rw [cell_of_row wr _ _ _ _ _ Hk.out]
        match j, hlt with
        | 0, _ => exact ⟨E_goal, by decide, rfl⟩
        | 1, _ => exact ⟨E_pass, by decide, rfl⟩
        | 2, _ => exact ⟨E_save, by decide, rfl⟩
        | 3, _ => exact ⟨E_yard, by decide, rfl⟩
      obtain ⟨k, hkm, hcell⟩ := hcell
      have Hkm := Lib.hid hkm
      clear hkm
      have hlk := lt_of_heap Hk.out
      go_wp2_with fail
      refine (flip_calls B (N + 2 * j) 2 wr hsr (by omega) (by omega) (by omega)).mono ?_
      rintro e w1 ⟨v, ⟨b, rfl⟩, rfl, hs1, hg1⟩
      have hown1 := own_keep hown hg1 (by omega)
      have Hk1 := Lib.hid ((hg1.block _ hlk (by simp; omega)).trans Hk.out)
      have hg01 := gb_trans hg hg1
      clear hown hsr hg1 hcell
      cases b
      · go_wp2_with fail
        go_roundw
        case rel => exact ⟨j + 1, ts, by omega, by go_num, by omega, Hts, hown1, hs1.mono (by omega), hg01, Hk1⟩
        case measure => simp [intOf]; omega
      · go_wp2_with fail
        refine (pick_calls B _ w1.heap.size _ [0, 1, 2, 7, 110, -3] _ (hs1.alloc _) (by omega) (ints_new w1 [0, 1, 2, 7, 110, -3] (by decide)) hs1.lt (by simp)).mono ?_
        rintro e w2 ⟨v, ⟨c, rfl, hc⟩, rfl, hs2, hg2⟩
        have Hc := Lib.hid (show Int64 c by
          simp only [List.mem_cons, List.not_mem_nil, or_false] at hc
          unfold Int64; omega)
        have hown2 := own_keep (World.ownsRow.alloc hown1 (.cells ([0, 1, 2, 7, 110, -3].map (Value.int .i64)).toArray 3)) hg2 (by omega)
        have hlk1 := lt_of_heap Hk1.out
        have Hk2 := Lib.hid ((hg2.block _ (by simp; omega) (by simp; omega)).trans ((heap_alloc_old w1 (.cells ([0, 1, 2, 7, 110, -3].map (Value.int .i64)).toArray 3) hlk1).trans Hk1.out))
        have hg02 : w.grownBy w2 (some B) := gb_trans hg01 (gb_trans (gb_alloc w1 _ _) hg2)
        have hlk2 := lt_of_heap Hk2.out
        clear hc hown1 hg2 hs1 hg01
        go_wp2_with (at_builtin; refine wpList_append_own _ rfl _ _ 30 rfl (w.heap.size + 1) 76 i0 (.agg #[.string ⟨#[]⟩, .int .i64 0]) 2 24 Tryd.underlying30 hi hz0 hz1 hz2 rfl (by decide) _ _ _ rfl (hown2.alloc _) ⟨w2.heap.size, 0, none⟩ 1 1 [.string k, .int .i64 c] rfl rfl ?c1 ?c2 ?c3 ?c4 ?c5 ?_)
        case c1 => exact cells_new _ _ _
        case c2 => simp [Value.oneCell']
        case c3 => unfold maxLen; omega
        case c4 => omega
        case c5 => simp; omega
        intro v' w3 hown3 hgrow _
        go_wp2_with fail
        go_roundw
        case rel =>
          refine ⟨j + 1, ts ++ [⟨k, c⟩], by omega, by go_num, by simp; omega, Lib.hid fun x hx => ?_, by rw [flat_snoc]; simpa [stRow] using hown3, ((hs2.alloc _).grown hgrow fun r hr => ?_).mono (by omega), gb_then (gb_trans hg02 (gb_alloc w2 _ _)) hgrow fun r hr => ?_, Lib.hid ((hgrow.block _ (by simp; omega) fun e => ?_).trans ((heap_alloc_old w2 _ hlk2).trans Hk2.out))⟩
          · rcases List.mem_append.1 hx with h | h
            · exact Hts.out x h
            · obtain rfl := List.mem_singleton.1 h; exact ⟨Hkm.out, Hc.out⟩
          · have := (own_block hown2 r hr).1; omega
          · have := (own_block hown2 r hr).1; omega
          · have := (own_block hown2 _ e.symm).1; omega
        case measure => simp [intOf]; omega
    · obtain rfl : j = 4 := by omega
      have hownw := hown.mono (show w.heap.size ≤ w.heap.size + 1 by omega)
      clear Hk hown
      go_wp2_with fail
      refine (flip_calls B _ 25 wr hsr (by omega) (by omega) (by omega)).mono ?_
      rintro e w1 ⟨v, ⟨b, rfl⟩, rfl, hs1, hg1⟩
      have hown1 := own_keep hownw hg1 hBw
      have hg01 := gb_trans hg hg1
      clear hownw hsr hg1
      cases b
      · go_wp2_with fail
        go_ret
        exact ⟨_, ⟨ts, tds_of_owns hown1 (by omega), by omega, Hts.out⟩, rfl, hs1.mono (by omega), hg01⟩
      · go_wp2_with fail
        refine (some_calls B _ w1.heap.size _ [E_none, E_goal, E_zz] _ (hs1.alloc _) (by omega) (strs_new w1 [E_none, E_goal, E_zz] (by decide)) hs1.lt (by simp)).mono ?_
        rintro e w2 ⟨v, ⟨k, rfl, hk⟩, rfl, hs2, hg2⟩
        have Hkm := Lib.hid (small_of' (by decide) hk)
        have hown2 := own_keep (World.ownsRow.alloc hown1 (.cells ([E_none, E_goal, E_zz].map Value.string).toArray 9)) hg2 hBw
        have hg02 : w.grownBy w2 (some B) := gb_trans hg01 (gb_trans (gb_alloc w1 _ _) hg2)
        clear hk hown1 hg2 hs1 hg01
        go_wp2_with fail
        refine (odd_calls B _ (-100000) 100000 w2 hs2 (by omega) (by omega) (by omega) (by omega)).mono ?_
        rintro e w3 ⟨v, ⟨c, rfl, hc1, hc2⟩, rfl, hs3, hg3⟩
        have Hc := Lib.hid (show Int64 c by unfold Int64; omega)
        have hown3 := own_keep hown2 hg3 hBw
        have hg03 : w.grownBy w3 (some B) := gb_trans hg02 hg3
        have hsz := hg03.size
        clear hc1 hc2 hown2 hg3 hs2 hg02
        go_wp2_with (at_builtin; refine wpList_append_own _ rfl _ _ 30 rfl w.heap.size 76 i0 (.agg #[.string ⟨#[]⟩, .int .i64 0]) 2 24 Tryd.underlying30 hi hz0 hz1 hz2 rfl (by decide) _ _ _ rfl (hown3.alloc _) ⟨w3.heap.size, 0, none⟩ 1 1 [.string k, .int .i64 c] rfl rfl ?c1 ?c2 ?c3 ?c4 ?c5 ?_)
        case c1 => exact cells_new _ _ _
        case c2 => simp [Value.oneCell']
        case c3 => unfold maxLen; omega
        case c4 => omega
        case c5 => simp; omega
        intro v' w4 hown4 hgrow _
        go_wp2_with fail
        go_ret
        refine ⟨_, ⟨ts ++ [⟨k, c⟩], tds_of_owns (by rw [flat_snoc]; simpa [stRow] using hown4) (by simp; omega), by simp; omega, fun x hx => ?_⟩, rfl, ((hs3.alloc _).grown hgrow fun r hr => ?_).mono (by omega), gb_then (gb_trans hg03 (gb_alloc w3 _ _)) hgrow fun r hr => ?_⟩
        · rcases List.mem_append.1 hx with h | h
          · exact Hts.out x h
          · obtain rfl := List.mem_singleton.1 h; exact ⟨Hkm.out, Hc.out⟩
        · have := (own_block hown3 r hr).1; omega
        · exact (own_block hown3 r hr).1
end Go.Proofs.YtfakhapljjbbnaaDoor
