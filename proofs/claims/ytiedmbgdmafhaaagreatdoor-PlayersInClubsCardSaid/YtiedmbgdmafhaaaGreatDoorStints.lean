/- Stints and StintsOf: how stints are drawn. -/
import Derived.Test.YtiedmbgdmafhaaaGreatDoorDelf
import Derived.Deep.Cut
namespace Go.Proofs.YtiedmbgdmafhaaaGreatDoor
open Go.RowKit

def C_red : ByteArray := ⟨#[114, 101, 100]⟩
def C_blue : ByteArray := ⟨#[98, 108, 117, 101]⟩
def C_R : ByteArray := ⟨#[82]⟩
def OkS (s : SD) : Prop := s.player.size ≤ 40 ∧ s.club.size ≤ 40 ∧ -1099511627776 ≤ s.week ∧ s.week ≤ 1099511627776
theorem small_of {ks : List ByteArray} (h : (ks.all fun k => decide (k.size ≤ 40)) = true) {k : ByteArray} (hk : k ∈ ks) : k.size ≤ 40 := by
  have := List.all_eq_true.1 h k hk
  simpa using this
theorem info_st : (Tryz.prog.info? 110).map (fun i => (i.zero, i.size, i.bytes)) = some (some (.agg #[.string ⟨#[]⟩, .string ⟨#[]⟩, .int .i64 0]), 3, 40) := by kernel_rfl
theorem own_st_row {w w' : World} {base B : Nat} {v : Value} {ss : List SD} {cur : Array Value} {T : Nat} {fr : Nat × Nat} (h : OwnSt w base v ss) (hg : w.grownBy w' (some B)) (hB : w.heap[B]? = some (.cells cur T fr)) (h1 : T ≠ 110) : OwnSt w' base v ss :=
  World.ownsRow.kept h hg (by right; intro e; obtain ⟨_, cur', h⟩ := own_block h B e; rw [hB] at h; cases h; exact h1 rfl)

theorem owns_mono {w : World} {base base' e size : Nat} {v : Value} {n : Nat} {xs : List Value} (h : w.ownsRow base e size v n xs) (hb : base' ≤ base) : w.ownsRow base' e size v n xs := by
  refine ⟨h.1, ?_⟩
  rcases h.2 with h | ⟨g, cap, cur, e, hg, rest⟩
  · exact .inl h
  · exact .inr ⟨g, cap, cur, e, Nat.le_trans hb hg, rest⟩
/-- The five keys lie in a block. -/
def FiveAt (w : World) (b : Nat) : Prop := w.heap[b]? = some (.cells #[.string K_ann, .string K_bea, .string K_cid, .string K_dan, .string K_eve] 9 (0, 0))
theorem five_cell {w : World} {b j : Nat} (h : FiveAt w b) (hj : j < 5) : ∃ k, k ∈ fiveKeys ∧ w.cell? ⟨b, j, none⟩ = some (.string k) := by
  rw [cell_of_row w _ _ _ _ _ h]
  match j, hj with
  | 0, _ => exact ⟨K_ann, by simp [fiveKeys], rfl⟩
  | 1, _ => exact ⟨K_bea, by simp [fiveKeys], rfl⟩
  | 2, _ => exact ⟨K_cid, by simp [fiveKeys], rfl⟩
  | 3, _ => exact ⟨K_dan, by simp [fiveKeys], rfl⟩
  | 4, _ => exact ⟨K_eve, by simp [fiveKeys], rfl⟩

def OwnSts (lo : Nat) (w : World) (v : Value) : Prop := ∃ ss, OwnSt w lo v ss ∧ ss.length ≤ 10 ∧ ∀ s ∈ ss, OkS s

set_option maxRecDepth 100000 in
set_option maxHeartbeats 2000000 in
theorem stints_calls (B N : Nat) (w : World) (hs : St w B N) (hN : N ≤ 3990000) :
    Calls Tryz.prog 79 #[.pointer (some ⟨B, 0, none⟩)] w (Made B (N + 100) (OwnSts w.heap.size) w) := by
  obtain ⟨i0, hi, hz0, hz1, hz2⟩ := info_parts info_st
  have hBw := hs.lt
  go_enter Tryz.func79, Tryz.ntmps79
  go_wp2_with fail
  go_loopw [3, 10] (fun out i wr => ∃ (j : Nat) (ss : List SD), j ≤ 5 ∧ i = .int .i64 j ∧ ss.length ≤ 2 * j ∧ Hid (∀ s ∈ ss, OkS s) ∧ OwnSt wr (w.heap.size + 1) out ss ∧ St wr B (N + 20 * j) ∧ w.grownBy wr (some B) ∧ FiveAt wr w.heap.size) (fun _ i _ => 5 - (intOf i).toNat)
  case atStart =>
    exact ⟨0, [], by omega, rfl, by simp, Lib.hid (by simp), World.ownsRow_nil _ _ _ _, hs.alloc _, gb_alloc w _ _, heap_alloc_new w _⟩
  case round =>
    obtain ⟨j, ss, hj, rfl, hpl, Hss, hown, hsr, hg, hk⟩ := hrel
    by_cases hlt : j < 5
    · obtain ⟨k, hkm, hcell⟩ := five_cell hk hlt
      have Hkm := Lib.hid hkm
      have hkw := lt_of_heap hk
      have Hk := Lib.hid hk
      clear hk hkm
      obtain ⟨curB, hB⟩ := st_cells hsr
      go_wp2_with fail
      refine (range_calls B (N + 20 * j) 1 2 wr hsr (by omega) (by omega) (by omega) (by omega)).mono ?_
      rintro e w1 ⟨v, ⟨wk, rfl, hw0, hw1⟩, rfl, hs1, hg1⟩
      have hown1 := own_st_row hown hg1 hB (by decide)
      obtain ⟨curB1, hB1⟩ := st_cells hs1
      clear hB hown
      go_wp2_with fail
      refine (range_calls B (N + 20 * j + 1) 0 2 w1 hs1 (by omega) (by omega) (by omega) (by omega)).mono ?_
      rintro e w2 ⟨v, ⟨m, rfl, hm0, hm1⟩, rfl, hs2, hg2⟩
      have hown2 := own_st_row hown1 hg2 hB1 (by decide)
      clear hB1 hown1
      have hg02 := gb_trans hg (gb_trans hg1 hg2)
      have hk2 : FiveAt w2 w.heap.size := ((gb_trans hg1 hg2).block _ hkw (by simp; omega)).trans Hk.out
      obtain ⟨wo, rfl⟩ : ∃ wo : World, wo = wr := ⟨_, rfl⟩
      go_wp2_with fail
      go_loopw [3, 6, 18] (fun out wv q wr => ∃ (t : Nat) (ss' : List SD) (wk' : Int), q = .int .i64 t ∧ (t : Int) ≤ m ∧ wv = .int .i64 wk' ∧ 1 ≤ wk' ∧ wk' ≤ 2 + 3 * (t : Int) ∧ ss'.length ≤ ss.length + t ∧ Hid (∀ s ∈ ss', OkS s) ∧ OwnSt wr (w.heap.size + 1) out ss' ∧ St wr B (N + 20 * j + 2 + 8 * t) ∧ w.grownBy wr (some B) ∧ Hid (FiveAt wr w.heap.size)) (fun _ _ q _ => 2 - (intOf q).toNat)
      case atStart => exact ⟨0, ss, wk, rfl, by omega, rfl, by omega, by omega, by omega, Hss, hown2, hs2.mono (by omega), hg02, Lib.hid hk2⟩
      case round =>
        obtain ⟨t, ss', wk', rfl, htm, rfl, hk0, hk1, hpl', Hss', hown', hs', hg', Hk'⟩ := hrel
        clear hown2 hs2 hg02 hk2 Hk hs1 hsr hg hg1 hg2
        by_cases hlt2 : (t : Int) < m
        · have hs5 := lt_of_heap Hk'.out
          obtain ⟨curB, hB⟩ := st_cells hs'
          go_wp2_with fail
          have hn := strs_new wr [C_red, C_blue, C_blue, K_none] (by decide)
          refine (some_calls B (N + 20 * j + 2 + 8 * t) wr.heap.size _ [C_red, C_blue, C_blue, K_none] _ (hs'.alloc _) (by omega) hn hs'.lt (by simp)).mono ?_
          rintro e w1 ⟨v, ⟨c, rfl, hc⟩, rfl, hs1, hg1⟩
          have hc40 := small_of (by decide) hc
          have hgo := gb_trans (gb_alloc wr (.cells ([C_red, C_blue, C_blue, K_none].map Value.string).toArray 9) (some B)) hg1
          have hown1 := own_st_row hown' hgo hB (by decide)
          have Hk1 := Lib.hid ((hgo.block _ hs5 (by simp; omega)).trans Hk'.out)
          obtain ⟨curB1, hB1⟩ := st_cells hs1
          clear hn hc hB
          go_wp2_with fail
          refine (flip_calls B (N + 20 * j + 2 + 8 * t + 1) 60 _ (hs1.alloc _) (by omega) (by omega) (by omega)).mono ?_
          rintro e w2 ⟨v, ⟨b, rfl⟩, rfl, hs2, hg2⟩
          have hgo2 := gb_trans (gb_alloc w1 (.cells #[.string k, .string c, .int .i64 wk'] 110) (some B)) hg2
          have hown2 := own_st_row hown1 hgo2 hB1 (by decide)
          cases b
          · have hw1B : w1.heap.size ≠ B := by have := hs1.lt; omega
            have d0 := gb_cell hg2 (show (w1.alloc (.cells #[.string k, .string c, .int .i64 wk'] 110)).cell? ⟨w1.heap.size, 0, none⟩ = some (.string k) by rw [World.cell?_alloc_at _ _ _ _ rfl]; rfl) hw1B
            have d1 := gb_cell hg2 (show (w1.alloc (.cells #[.string k, .string c, .int .i64 wk'] 110)).cell? ⟨w1.heap.size, 1, none⟩ = some (.string c) by rw [World.cell?_alloc_at _ _ _ _ rfl]; rfl) hw1B
            have d2 := gb_cell hg2 (show (w1.alloc (.cells #[.string k, .string c, .int .i64 wk'] 110)).cell? ⟨w1.heap.size, 2, none⟩ = some (.int .i64 wk') by rw [World.cell?_alloc_at _ _ _ _ rfl]; rfl) hw1B
            have hsX := hs2.mono (show _ ≤ N + 20 * j + 2 + 8 * t + 7 by omega)
            have hownX := hown2
            have hgX := gb_trans hg' (gb_trans hgo hgo2)
            have HkX := Lib.hid ((hgo2.block _ (lt_of_heap Hk1.out) (by simp; omega)).trans Hk1.out)
            have hokX : OkS ⟨k, c, wk'⟩ := ⟨small_of (ks := fiveKeys) (by decide) Hkm.out, hc40, by simp only; omega, by simp only; omega⟩
            clear hown1 hown2 hs1 hs2 hgo hgo2 hg1 hg2 hB1 Hk1 Hk' hown' hs' hg'
            -- the rest of the round, whatever the stint is
            have hx5 := lt_of_heap HkX.out
            obtain ⟨curX, hBX⟩ := st_cells hsX
            go_wp2_with (at_builtin; refine wpList_append_own _ rfl _ _ 28 rfl (w.heap.size + 1) 110 i0 (.agg #[.string ⟨#[]⟩, .string ⟨#[]⟩, .int .i64 0]) 3 40 Tryz.underlying28 hi hz0 hz1 hz2 rfl (by decide) _ _ _ rfl (World.ownsRow.alloc hownX _) ⟨w2.heap.size, 0, none⟩ 1 1 [.string k, .string c, .int .i64 wk'] rfl rfl ?c1 ?c2 ?c3 ?c4 ?c5 ?_)
            case c1 => exact cell_three_new _ _ _ _ _
            case c2 => simp [Value.oneCell']
            case c3 => unfold maxLen; omega
            case c4 => omega
            case c5 => simp; omega
            intro v' w4 hown4 hgrow _
            have hs4 := ((hsX.alloc (.cells #[.string k, .string c, .int .i64 wk'] 110)).grown hgrow fun r hr => by have := (own_block hownX r hr).1; omega)
            have hgX4 := gb_then (gb_trans hgX (gb_alloc w2 (.cells #[.string k, .string c, .int .i64 wk'] 110) _)) hgrow fun r hr => by have := (own_block hownX r hr).1; omega
            have Hk4 := Lib.hid ((hgrow.block _ (by simp; omega) fun e => by have := (own_block hownX _ e.symm).1; omega).trans ((heap_alloc_old w2 _ hx5).trans HkX.out))
            have hown4' : OwnSt w4 (w.heap.size + 1) v' (ss' ++ [⟨k, c, wk'⟩]) := by unfold OwnSt; simpa [stRow] using hown4
            obtain ⟨cur4, hB4⟩ := st_cells hs4
            have h45 := lt_of_heap Hk4.out
            have Hss4 : Hid (∀ s ∈ ss' ++ [⟨k, c, wk'⟩], OkS s) := Lib.hid fun s hs => by
              rcases List.mem_append.1 hs with h | h
              · exact Hss'.out s h
              · obtain rfl := List.mem_singleton.1 h; exact hokX
            clear hown4 hownX hsX hBX d0 d1 d2
            go_wp2_with fail
            refine (range_calls B (N + 20 * j + 2 + 8 * t + 7) 1 3 w4 (hs4.mono (by omega)) (by omega) (by omega) (by omega) (by omega)).mono ?_
            rintro e w5 ⟨v, ⟨dw, rfl, hdw0, hdw1⟩, rfl, hs5', hg5⟩
            have hown5 := own_st_row hown4' hg5 hB4 (by decide)
            have Hk5 := Lib.hid ((hg5.block _ h45 (by simp; omega)).trans Hk4.out)
            clear hown4' hB4
            go_wp2_with fail
            go_roundw
            case rel => exact ⟨t + 1, _, wk' + dw, by go_num, by omega, rfl, by omega, by omega, by simp; omega, Hss4, hown5, hs5'.mono (by omega), gb_trans hgX4 hg5, Hk5⟩
            case measure => simp [intOf]; omega
          · have hw1B : w1.heap.size ≠ B := by have := hs1.lt; omega
            have hk2' : FiveAt w2 w.heap.size := (hgo2.block _ (lt_of_heap Hk1.out) (by simp; omega)).trans Hk1.out
            have e0 := hg2.block w1.heap.size (by simp) (by simp; omega)
            rw [heap_alloc_new] at e0
            obtain ⟨curB2, hB2⟩ := st_cells hs2
            have hob : ∀ r, u3.ownBlock = some r → r < w1.heap.size := fun r hr => by obtain ⟨_, cur, h⟩ := own_block hown1 r hr; exact lt_of_heap h
            clear hown1
            have h10 := lt_of_heap e0
            go_wp2_with fail
            have hn := strs_new w2 [k, K_zed, K_ann] (by simp)
            refine (some_calls B (N + 20 * j + 2 + 8 * t + 2) w2.heap.size _ [k, K_zed, K_ann] _ (hs2.alloc _) (by omega) hn hs2.lt (by simp)).mono ?_
            rintro e w3 ⟨v, ⟨kX, rfl, hkX⟩, rfl, hs3, hg3⟩
            have hkX40 : kX.size ≤ 40 := by
              simp only [List.mem_cons, List.not_mem_nil, or_false] at hkX
              rcases hkX with rfl | rfl | rfl
              · exact small_of (ks := fiveKeys) (by decide) Hkm.out
              · decide
              · decide
            have hgo3 := gb_trans (gb_alloc w2 (.cells ([k, K_zed, K_ann].map Value.string).toArray 9) (some B)) hg3
            have hown3 := own_st_row hown2 hgo3 hB2 (by decide)
            have e3 := (hgo3.block _ h10 (by simp; omega)).trans e0
            obtain ⟨curB3, hB3⟩ := st_cells hs3
            clear hn hkX hown2 hB2
            go_wp2_with fail
            have hn := strs_new w3 [C_red, C_R] (by simp)
            refine (some_calls B (N + 20 * j + 2 + 8 * t + 3) w3.heap.size _ [C_red, C_R] _ (hs3.alloc _) (by omega) hn hs3.lt (by simp)).mono ?_
            rintro e w4 ⟨v, ⟨cX, rfl, hcX⟩, rfl, hs4, hg4⟩
            have hcX40 := small_of (by decide) hcX
            have hgo4 := gb_trans (gb_alloc w3 (.cells ([C_red, C_R].map Value.string).toArray 9) (some B)) hg4
            have hown4 := own_st_row hown3 hgo4 hB3 (by decide)
            have e4 := (hgo4.block _ (lt_of_heap e3) (by simp; omega)).trans e3
            obtain ⟨curB4, hB4⟩ := st_cells hs4
            clear hn hcX hown3 hB3
            go_wp2_with fail
            refine (odd_calls B (N + 20 * j + 2 + 8 * t + 4) 1 60 w4 hs4 (by omega) (by omega) (by omega) (by omega)).mono ?_
            rintro e w5 ⟨v, ⟨nX, rfl, hn0, hn1⟩, rfl, hs5', hg5⟩
            have hown5 := own_st_row hown4 hg5 hB4 (by decide)
            have e5 := (hg5.block _ (lt_of_heap e4) (by simp; omega)).trans e4
            have p0 : w5.cell? ⟨w1.heap.size, 0, none⟩ = some (.string k) := by rw [cell_of_row w5 _ _ _ _ _ e5]; rfl
            have p1 : w5.cell? ⟨w1.heap.size, 1, none⟩ = some (.string c) := by rw [cell_of_row w5 _ _ _ _ _ e5]; rfl
            have p2 : w5.cell? ⟨w1.heap.size, 2, none⟩ = some (.int .i64 wk') := by rw [cell_of_row w5 _ _ _ _ _ e5]; rfl
            have f0 : w5.frozen? ⟨w1.heap.size, 0, none⟩ = false := by simp [World.frozen?, e5]
            have f1 : w5.frozen? ⟨w1.heap.size, 1, none⟩ = false := by simp [World.frozen?, e5]
            have f2 : w5.frozen? ⟨w1.heap.size, 2, none⟩ = false := by simp [World.frozen?, e5]
            have hg05 := gb_trans hg' (gb_trans hgo (gb_trans hgo2 (gb_trans hgo3 (gb_trans hgo4 hg5))))
            have Hk5 := Lib.hid (((gb_trans hgo3 (gb_trans hgo4 hg5)).block _ (lt_of_heap hk2') (by simp; omega)).trans hk2')
            have h15 : w.heap.size + 1 ≤ w1.heap.size := by have := lt_of_heap Hk1.out; omega
            have E5 := Lib.hid e5
            clear hown4 hB4 e0 e3 e4 e5 hB1 Hk1 Hk' hown' hk2'
            go_upto_region 11 with fail
            obtain ⟨wX, hwX⟩ : ∃ wX, wX = ((w5.setCell ⟨w1.heap.size, 0, none⟩ (.string kX)).setCell ⟨w1.heap.size, 1, none⟩ (.string cX)).setCell ⟨w1.heap.size, 2, none⟩ (.int .i64 nX) := ⟨_, rfl⟩
            rw [← hwX]
            have hX : w5.grownBy wX (some w1.heap.size) := by rw [hwX]; exact gb_trans (gb_setCell _ _ _ _) (gb_trans (gb_setCell _ _ _ _) (gb_setCell _ _ _ _))
            have eX : wX.heap[w1.heap.size]? = some (.cells #[.string kX, .string cX, .int .i64 nX] 110 (0, 0)) := by rw [hwX]; simp [World.setCell, Array.getElem?_modify, E5.out]
            have d0 : wX.cell? ⟨w1.heap.size, 0, none⟩ = some (.string kX) := by rw [cell_of_row wX _ _ _ _ _ eX]; rfl
            have d1 : wX.cell? ⟨w1.heap.size, 1, none⟩ = some (.string cX) := by rw [cell_of_row wX _ _ _ _ _ eX]; rfl
            have d2 : wX.cell? ⟨w1.heap.size, 2, none⟩ = some (.int .i64 nX) := by rw [cell_of_row wX _ _ _ _ _ eX]; rfl
            have hsX : St wX B (N + 20 * j + 2 + 8 * t + 7) := (hs5'.grown hX fun r hr => by cases hr; omega).mono (by omega)
            have hownX : OwnSt wX (w.heap.size + 1) u3 ss' := World.ownsRow.kept hown5 hX (by right; intro e; have := hob _ e; omega)
            have hgX := gb_then hg05 hX fun r hr => by cases hr; omega
            have HkX := Lib.hid ((hX.block _ (lt_of_heap Hk5.out) (by simp; omega)).trans Hk5.out)
            have hokX : OkS ⟨kX, cX, nX⟩ := ⟨hkX40, hcX40, by simp only; omega, by simp only; omega⟩
            clear hwX hX eX E5 Hk5 hown5 hs5' hg05 p0 p1 p2 f0 f1 f2 hob
            clear hs1 hs2 hs3 hs4 hgo hgo2 hgo3 hgo4 hg1 hg2 hg3 hg4 hg5 hs' hg'
            -- the rest of the round, whatever the stint is
            have hx7 := lt_of_heap HkX.out
            obtain ⟨curX, hBX⟩ := st_cells hsX
            go_wp2_with (at_builtin; refine wpList_append_own _ rfl _ _ 28 rfl (w.heap.size + 1) 110 i0 (.agg #[.string ⟨#[]⟩, .string ⟨#[]⟩, .int .i64 0]) 3 40 Tryz.underlying28 hi hz0 hz1 hz2 rfl (by decide) _ _ _ rfl (World.ownsRow.alloc hownX _) ⟨wX.heap.size, 0, none⟩ 1 1 [.string kX, .string cX, .int .i64 nX] rfl rfl ?c1 ?c2 ?c3 ?c4 ?c5 ?_)
            case c1 => exact cell_three_new _ _ _ _ _
            case c2 => simp [Value.oneCell']
            case c3 => unfold maxLen; omega
            case c4 => omega
            case c5 => simp; omega
            intro v' w6 hown6 hgrow _
            have hs6 := ((hsX.alloc (.cells #[.string kX, .string cX, .int .i64 nX] 110)).grown hgrow fun r hr => by have := (own_block hownX r hr).1; omega)
            have hgX6 := gb_then (gb_trans hgX (gb_alloc wX (.cells #[.string kX, .string cX, .int .i64 nX] 110) _)) hgrow fun r hr => by have := (own_block hownX r hr).1; omega
            have Hk6 := Lib.hid ((hgrow.block _ (by simp; omega) fun e => by have := (own_block hownX _ e.symm).1; omega).trans ((heap_alloc_old wX _ hx7).trans HkX.out))
            have hown6' : OwnSt w6 (w.heap.size + 1) v' (ss' ++ [⟨kX, cX, nX⟩]) := by unfold OwnSt; simpa [stRow] using hown6
            obtain ⟨cur6, hB6⟩ := st_cells hs6
            have h65 := lt_of_heap Hk6.out
            have Hss6 : Hid (∀ s ∈ ss' ++ [⟨kX, cX, nX⟩], OkS s) := Lib.hid fun s hs => by
              rcases List.mem_append.1 hs with h | h
              · exact Hss'.out s h
              · obtain rfl := List.mem_singleton.1 h; exact hokX
            clear hown6 hownX hsX hBX d0 d1 d2
            go_wp2_with fail
            refine (range_calls B (N + 20 * j + 2 + 8 * t + 7) 1 3 w6 (hs6.mono (by omega)) (by omega) (by omega) (by omega) (by omega)).mono ?_
            rintro e w7 ⟨v, ⟨dw, rfl, hdw0, hdw1⟩, rfl, hs7', hg7⟩
            have hown7 := own_st_row hown6' hg7 hB6 (by decide)
            have Hk7 := Lib.hid ((hg7.block _ h65 (by simp; omega)).trans Hk6.out)
            clear hown6' hB6
            go_wp2_with fail
            go_roundw
            case rel => exact ⟨t + 1, _, wk' + dw, by go_num, by omega, rfl, by omega, by omega, by simp; omega, Hss6, hown7, hs7'.mono (by omega), gb_trans hgX6 hg7, Hk7⟩
            case measure => simp [intOf]; omega
        · have hS := Hk'.out
          clear hlt
          go_wp2_with fail
          go_roundw
          case rel => exact ⟨j + 1, ss', by omega, by go_num, by omega, Hss', hown', hs'.mono (by omega), hg', hS⟩
          case measure => simp [intOf]; omega
    · obtain rfl : j = 5 := by omega
      clear hk
      go_wp2_with fail
      go_ret
      exact ⟨_, ⟨ss, owns_mono hown (by omega), by omega, Hss.out⟩, rfl, hsr.mono (by omega), hg⟩

def SomeSt (lo : Nat) (w : World) (v : Value) : Prop := ∃ ss, Sts w lo v ss ∧ ss.length ≤ 10 ∧ ∀ s ∈ ss, OkS s

set_option maxRecDepth 100000 in
set_option maxHeartbeats 1000000 in
theorem stintsOf_calls (B N lo' : Nat) (pv : Value) (ps : List PD) (w : World) (hs : St w B N) (hN : N ≤ 3990000) (hp : Plays w lo' pv ps) :
    Calls Tryz.prog 10 #[.pointer (some ⟨B, 0, none⟩), pv] w (Made B (N + 100) (SomeSt w.heap.size) w) := by
  obtain ⟨pa, pc, rfl⟩ : ∃ a c, pv = .slice a ps.length c := by
    rcases plays_at hp with ⟨rfl, rfl⟩ | ⟨g, off, cap, rfl, _⟩
    · exact ⟨none, 0, rfl⟩
    · exact ⟨_, _, rfl⟩
  have hBw := hs.lt
  go_enter Tryz.func10, Tryz.ntmps10
  go_wp2_with fail
  refine (stints_calls B N w hs hN).mono ?_
  rintro e w1 ⟨v, ⟨ss, hown, hlen, hok⟩, rfl, hs1, hg1⟩
  obtain ⟨curB, hB⟩ := st_cells hs
  have hp1 := hp.row hg1 hB (by decide) (by decide)
  obtain ⟨a, c, rfl⟩ := owns_shape hown
  go_wp2_with fail
  refine (ofThese_calls OkS w.heap.size lo' _ _ ss ps w1 hown (by omega) hg1.size hp1 hok).mono ?_
  rintro e w2 ⟨v', ss', rfl, hS, hle, hb, hq⟩
  have HS := Lib.hid hS
  have Hq := Lib.hid hq
  clear hS hq hown hp hp1
  go_wp2_with fail
  go_ret
  exact ⟨_, ⟨ss', HS.out, by omega, Hq.out⟩, rfl, hs1.lift fun k hk => hb.block k (by omega), ⟨hb.os.trans hg1.os, hb.tape.trans hg1.tape, hb.output.trans hg1.output, Nat.le_trans hg1.size hb.size, fun k hk hne => (hb.block k hk).trans (hg1.block k hk hne)⟩⟩
end Go.Proofs.YtiedmbgdmafhaaaGreatDoor
