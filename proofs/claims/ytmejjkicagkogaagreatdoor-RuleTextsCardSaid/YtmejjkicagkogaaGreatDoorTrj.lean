/- RuleTexts: the text of rules drawn, rules read from a text on both sides, slices.Equal at rules, the law's walk. -/
import Derived.Test.YtmejjkicagkogaaGreatDoorTrx
import Derived.Test.YtmejjkicagkogaaGreatDoorSms
import Derived.Test.YtmejjkicagkogaaGreatDoorTrv
import Derived.Lib.CutLaws
import Derived.OwnWalk
import Derived.Test.YtmejjkicagkogaaGreatDoorSra
import Derived.Test.YtmejjkicagkogaaGreatDoorBsk
import Derived.Laws.StructEq
import Derived.Test.YtmejjkicagkogaaGreatDoorSre
import Derived.Test.YtmejjkicagkogaaGreatDoorSmt
import Derived.Test.YtmejjkicagkogaaGreatDoorTap
import Derived.Deep.CutRange
namespace Go.Proofs.YtmejjkicagkogaaGreatDoor
open Go.RowKit

/-- Small, and with short words and a kind that there is. -/
def TightR (r : RD) : Prop := SmallR r ∧ r.key.size ≤ 2 ∧ r.stat.size ≤ 4 ∧ r.pos.size ≤ 2 ∧ 1 ≤ r.kind ∧ r.kind ≤ 4
theorem smallN_of {n : Nat} {k : ByteArray} {ks : List ByteArray} (h : ks.all (fun k => decide (k.size ≤ n)) = true) (hk : k ∈ ks) : k.size ≤ n := by
  rw [List.all_eq_true] at h
  simpa using h k hk
/-- Tight rules that the call owns. -/
def OwnRt (lo : Nat) (w : World) (v : Value) : Prop := ∃ rs : List RD, w.ownsRow lo 40 7 v rs.length (rs.map rlRow).flatten ∧ rs.length ≤ 5 ∧ ∀ r ∈ rs, TightR r
set_option maxRecDepth 100000 in
set_option maxHeartbeats 4000000 in
theorem rightRulesT_calls (B N : Nat) (w : World) (hs : St w B N) (hN : N ≤ 3980000) :
    Calls Tryz.prog 13 #[.pointer (some ⟨B, 0, none⟩)] w (Made B (N + 40) (OwnRt w.heap.size) w) := by
  obtain ⟨i0, hi, hz0, hz1, hz2⟩ := info_parts info_rl
  have hBw := hs.lt
  go_enter Tryz.func13, Tryz.ntmps13
  go_wp2_with fail
  go_loopw [3, 9] (fun out i wr => ∃ (j : Nat) (rs : List RD), j ≤ 5 ∧ i = .int .i64 j ∧ rs.length ≤ j ∧ Hid (∀ r ∈ rs, TightR r) ∧ wr.ownsRow (w.heap.size + 1) 40 7 out rs.length (rs.map rlRow).flatten ∧ St wr B (N + 6 * j) ∧ w.grownBy wr (some B) ∧ wr.heap[w.heap.size]? = some keysO) (fun _ i _ => 5 - (intOf i).toNat)
  case atStart =>
    exact ⟨0, [], by omega, rfl, by simp, Lib.hid (by simp), World.ownsRow_nil _ _ _ _, hs.alloc _, gb_alloc w _ _, heap_alloc_new w _⟩
  case round =>
    obtain ⟨j, rs, hj, rfl, hkl, Hrs, hown, hsr, hg, hk⟩ := hrel
    by_cases hlt : j < 5
    · have hcell : ∃ k, k.size ≤ 2 ∧ wr.cell? ⟨w.heap.size, j, none⟩ = some (.string k) := by
        rw [cell_of_row wr _ _ _ _ _ hk]
        match j, hlt with
        | 0, _ => exact ⟨F_ra, by decide, rfl⟩
        | 1, _ => exact ⟨F_rb, by decide, rfl⟩
        | 2, _ => exact ⟨F_rc, by decide, rfl⟩
        | 3, _ => exact ⟨F_rd, by decide, rfl⟩
        | 4, _ => exact ⟨F_re, by decide, rfl⟩
      obtain ⟨k, hkm, hcell⟩ := hcell
      have Hkm := Lib.hid hkm
      clear hkm
      have hlk := lt_of_heap hk
      go_wp2_with fail
      refine (flip_calls B _ 4 wr hsr (by omega) (by omega) (by omega)).mono ?_
      rintro e w1 ⟨v, ⟨b, rfl⟩, rfl, hs1, hg1⟩
      have hown1 := own_keep hown hg1 (by omega)
      have hk1 := heap_gb hk hg1 (by omega)
      have hg01 := gb_trans hg hg1
      clear hown hsr hg1 hcell hk
      cases b
      · go_wp2_with fail
        refine (some_calls B _ w1.heap.size _ [E_goal, E_pass, E_save, E_yard] _ (hs1.alloc _) (by omega) (strs_new w1 [E_goal, E_pass, E_save, E_yard] (by decide)) hs1.lt (by simp)).mono ?_
        rintro e w2 ⟨v, ⟨st, rfl, hst⟩, rfl, hs2, hg2⟩
        have Hst := Lib.hid (smallN_of (n := 4) (by decide) hst)
        have hown2 := own_keep (World.ownsRow.alloc hown1 (.cells ([E_goal, E_pass, E_save, E_yard].map Value.string).toArray 9)) hg2 (by omega)
        have hk2 := heap_gb (heap_al hk1 (.cells ([E_goal, E_pass, E_save, E_yard].map Value.string).toArray 9)) hg2 (by omega)
        have hg02 : w.grownBy w2 (some B) := gb_trans hg01 (gb_trans (gb_alloc w1 _ _) hg2)
        clear hst hown1 hg2 hs1 hg01 hk1
        go_wp2_with fail
        refine (some_calls B _ w2.heap.size _ [E_none, E_none, S_gk, S_df] _ (hs2.alloc _) (by omega) (strs_new w2 [E_none, E_none, S_gk, S_df] (by decide)) hs2.lt (by simp)).mono ?_
        rintro e w3 ⟨v, ⟨ps, rfl, hps⟩, rfl, hs3, hg3⟩
        have Hps := Lib.hid (smallN_of (n := 2) (by decide) hps)
        have hown3 := own_keep (World.ownsRow.alloc hown2 (.cells ([E_none, E_none, S_gk, S_df].map Value.string).toArray 9)) hg3 (by omega)
        have hk3 := heap_gb (heap_al hk2 (.cells ([E_none, E_none, S_gk, S_df].map Value.string).toArray 9)) hg3 (by omega)
        have hg03 : w.grownBy w3 (some B) := gb_trans hg02 (gb_trans (gb_alloc w2 _ _) hg3)
        clear hps hown2 hg3 hs2 hg02 hk2
        go_wp2_with fail
        refine (range_calls B _ 1 4 w3 hs3 (by omega) (by omega) (by omega) (by omega)).mono ?_
        rintro e w4 ⟨v, ⟨kd, rfl, hkd1, hkd4⟩, rfl, hs4, hg4⟩
        have hown4 := own_keep hown3 hg4 (by omega)
        have hk4 := heap_gb hk3 hg4 (by omega)
        have hg04 : w.grownBy w4 (some B) := gb_trans hg03 hg4
        clear hown3 hg4 hs3 hg03 hk3
        go_wp2_with fail
        refine (pick_calls B _ w4.heap.size _ [100, 400, 4, 50, -200, 7] _ (hs4.alloc _) (by omega) (ints_new w4 [100, 400, 4, 50, -200, 7] (by decide)) hs4.lt (by simp)).mono ?_
        rintro e w5 ⟨v, ⟨c, rfl, hc⟩, rfl, hs5, hg5⟩
        have hcI : Int64 c := by
          simp only [List.mem_cons, List.not_mem_nil, or_false] at hc
          unfold Int64; omega
        have hown5 := own_keep (World.ownsRow.alloc hown4 (.cells ([100, 400, 4, 50, -200, 7].map (Value.int .i64)).toArray 3)) hg5 (by omega)
        have hk5 := heap_gb (heap_al hk4 (.cells ([100, 400, 4, 50, -200, 7].map (Value.int .i64)).toArray 3)) hg5 (by omega)
        have hg05 : w.grownBy w5 (some B) := gb_trans hg04 (gb_trans (gb_alloc w4 _ _) hg5)
        clear hc hown4 hg5 hs4 hg04 hk4
        go_wp2_with fail
        refine (ofHundredthsR_calls c w5 hcI).mono ?_
        rintro e w6 ⟨rfl, hb6⟩
        have hs6 := hs5.below hb6
        have hown6 := hown5.kept (gb_below hb6 none) (by cases hv : u3.ownBlock <;> simp)
        have hk6 := cells_later hk5 hb6
        have hg06 := gb_trans hg05 (gb_below hb6 (some B))
        have hfr : ∃ nu de : Int, frV (lowF c 100) = .agg #[.int .i64 nu, .int .i64 de] ∧ Int64 nu ∧ Int64 de :=
          ⟨_, _, rfl, tdiv_64 hcI (gcdI_pos (by omega)), tdiv_64 (show Int64 100 by unfold Int64; omega) (gcdI_pos (by omega))⟩
        obtain ⟨nu, de, hfr, hnu, hde⟩ := hfr
        rw [hfr]
        have Hnu := Lib.hid hnu
        have Hde := Lib.hid hde
        have hlk6 := lt_of_heap hk6
        clear hs5 hown5 hk5 hg05 hb6 hcI hfr hnu hde
        obtain ⟨X, hX⟩ : ∃ X, X = w6.heap.size := ⟨_, rfl⟩
        have hS : RS w B X (w.heap.size + 1) u3 rs ⟨k, st, ps, kd, 0, nu, de⟩ (N + 6 * j + 5) (w6.alloc (.cells #[.string k, .string st, .string ps, .int .i64 kd, .int .i64 0, .int .i64 nu, .int .i64 de] 40)) :=
          ⟨(hs6.alloc _).mono (by omega), by rw [hX]; exact heap_alloc_new w6 _, World.ownsRow.alloc hown6 _, gb_trans hg06 (gb_alloc w6 _ _)⟩
        have hkS := heap_al hk6 (.cells #[.string k, .string st, .string ps, .int .i64 kd, .int .i64 0, .int .i64 nu, .int .i64 de] 40)
        have hoX : u3.ownBlock ≠ some X := by
          intro e
          obtain ⟨_, cur', h⟩ := own_block hown6 X e
          have := lt_of_heap h
          omega
        have hXw : w.heap.size + 1 ≤ X := by omega
        clear hs6 hown6 hg06 hk6
        go_upto_region 7 with fail
        obtain ⟨wA, hwA⟩ : ∃ wA, wA = w6.alloc (.cells #[.string k, .string st, .string ps, .int .i64 kd, .int .i64 0, .int .i64 nu, .int .i64 de] 40) := ⟨_, rfl⟩
        rw [← hwA] at hS hkS ⊢
        rw [← hX]
        clear hX hwA hlk6
        have hsR : TightR ⟨k, st, ps, kd, 0, nu, de⟩ := ⟨⟨Nat.le_trans Hkm.out (by decide), Nat.le_trans Hst.out (by decide), Nat.le_trans Hps.out (by decide), by unfold Int64; show -9223372036854775808 ≤ kd ∧ kd ≤ 9223372036854775807; omega, by unfold Int64; show -9223372036854775808 ≤ (0 : Int) ∧ (0 : Int) ≤ 9223372036854775807; omega, Hnu.out, Hde.out⟩, Hkm.out, Hst.out, Hps.out, by show 1 ≤ kd; omega, by show kd ≤ 4; omega⟩
        have HsR := Lib.hid hsR
        clear hsR Hkm Hst Hps Hnu Hde
        go_cut [36] from 10 to 45 (fun v wc => ∃ b : Bool, v = .bool b ∧ wA = wc)
        case first =>
          obtain ⟨c0, c1, c2, c3, c4, c5, c6, cf⟩ := hS.cells
          dsimp only at c3
          by_cases h2 : kd = 2
          · have e1 : (kd == 2) = true := by simp [h2]
            clear h2 hS
            go_wp2_with fail
            go_meet
            case rel => exact ⟨_, rfl, rfl⟩
          · have e1 : (kd == 2) = false := by simp [h2]
            clear h2 hS
            go_wp2_with fail
            go_meet
            case rel => exact ⟨_, rfl, rfl⟩
        case rest =>
          obtain ⟨b, rfl, rfl⟩ := hcut
          go_upto_if 36 with fail
          go_cut [36] from 10 to 45 (fun _ wc => ∃ r : RD, Hid (TightR r) ∧ RS w B X (w.heap.size + 1) u3 rs r (N + 6 * j + 6) wc ∧ wc.heap[w.heap.size]? = some keysO)
          case first =>
            cases b
            · go_wp2_with fail
              go_meet
              case rel => exact ⟨_, HsR, hS.mono (by omega), hkS⟩
            · go_wp2_with fail
              refine (pick_calls B _ wA.heap.size _ [1, 2, 3, 7, 100] _ (hS.st.alloc _) (by omega) (ints_new wA [1, 2, 3, 7, 100] (by decide)) hS.st.lt (by simp)).mono ?_
              rintro e w7 ⟨v, ⟨m, rfl, hm⟩, rfl, hs7, hg7⟩
              have hmI : Int64 m := by
                simp only [List.mem_cons, List.not_mem_nil, or_false] at hm
                unfold Int64; omega
              have HmR := Lib.hid (show TightR ⟨k, st, ps, kd, m, nu, de⟩ from ⟨⟨HsR.out.1.1, HsR.out.1.2.1, HsR.out.1.2.2.1, HsR.out.1.2.2.2.1, hmI, HsR.out.1.2.2.2.2.2⟩, HsR.out.2⟩)
              have hS7 := (hS.alloc (.cells ([1, 2, 3, 7, 100].map (Value.int .i64)).toArray 3)).step hs7 hg7 (by omega) (by omega)
              have hk7 := heap_gb (heap_al hkS (.cells ([1, 2, 3, 7, 100].map (Value.int .i64)).toArray 3)) hg7 (by omega)
              obtain ⟨c0, c1, c2, c3, c4, c5, c6, cf⟩ := hS7.cells
              dsimp only at c4
              have hSm := hS7.many (by omega) (by omega) hoX m
              have hkm := heap_far (X := w.heap.size) (Y := X) (o := 4) (u := .int .i64 m) hk7 (by omega)
              clear hm hmI hg7 hs7 hS hkS c0 c1 c2 c3 c5 c6 hS7 hk7
              go_wp2_with fail
              go_meet
              case rel => exact ⟨_, HmR, hSm.mono (by omega), hkm⟩
          case rest =>
            obtain ⟨r, Hr, hSc, hkc⟩ := hcut
            obtain ⟨c0, c1, c2, c3, c4, c5, c6, cf⟩ := hSc.cells
            have hownc := hSc.own
            have hlkc := lt_of_heap hkc
            clear hS hkS HsR
            go_wp2_with (at_builtin; refine wpList_append_own _ rfl _ _ 26 rfl (w.heap.size + 1) 40 i0 (.agg #[.string ⟨#[]⟩, .string ⟨#[]⟩, .string ⟨#[]⟩, .int .i64 0, .int .i64 0, .int .i64 0, .int .i64 0]) 7 80 Tryz.underlying26 hi hz0 hz1 hz2 rfl (by decide) _ _ _ rfl (hownc.alloc _) ⟨_, 0, none⟩ 1 1 (rlRow r) rfl rfl ?c1 ?c2 ?c3 ?c4 ?c5 ?_)
            case c1 => exact cells_new _ _ _
            case c2 => simp [rlRow, Value.oneCell']
            case c3 => unfold maxLen; omega
            case c4 => omega
            case c5 => simp; omega
            intro v' w8 hown8 hgrow _
            go_wp2_with fail
            go_roundw
            case rel =>
              refine ⟨j + 1, rs ++ [r], by omega, by go_num, by simp; omega, Lib.hid fun x hx => ?_, by rw [flat_snoc]; simpa using hown8, ((hSc.st.alloc _).grown hgrow fun r hr => ?_).mono (by omega), gb_then (gb_trans hSc.gb (gb_alloc _ _ _)) hgrow fun r hr => ?_, (hgrow.block _ (by simp; omega) fun e => ?_).trans ((heap_alloc_old _ _ hlkc).trans hkc)⟩
              · rcases List.mem_append.1 hx with h | h
                · exact Hrs.out x h
                · obtain rfl := List.mem_singleton.1 h; exact Hr.out
              · have := (own_block hownc r hr).1; omega
              · have := (own_block hownc r hr).1; omega
              · have := (own_block hownc _ e.symm).1; omega
            case measure => simp [intOf]; omega
      · go_wp2_with fail
        go_roundw
        case rel => exact ⟨j + 1, rs, by omega, by go_num, by omega, Hrs, hown1, hs1.mono (by omega), hg01, hk1⟩
        case measure => simp [intOf]; omega
    · obtain rfl : j = 5 := by omega
      clear hk
      go_wp2_with fail
      go_ret
      exact ⟨_, ⟨rs, hown.mono (by omega), by omega, Hrs.out⟩, rfl, hsr.mono (by omega), hg⟩
/-- A string of at most so many bytes. -/
def ShortS (n : Nat) (v : Value) : Prop := ∃ u, v = .string u ∧ u.size ≤ n
def C_rchars : ByteArray := ⟨#[32, 10, 47, 48, 45, 57, 97, 101]⟩
theorem enc_le (x : Int) : (Utf8.encode x).size ≤ 4 := by
  unfold Utf8.encode
  simp only
  generalize (if Utf8.valid x then x.toNat else Utf8.runeError) = c
  by_cases h1 : c < 0x80
  · rw [if_pos h1]; exact Nat.le_of_ble_eq_true rfl
  · rw [if_neg h1]
    by_cases h2 : c < 0x800
    · rw [if_pos h2]; exact Nat.le_of_ble_eq_true rfl
    · rw [if_neg h2]
      by_cases h3 : c < 0x10000
      · rw [if_pos h3]; exact Nat.le_of_ble_eq_true rfl
      · rw [if_neg h3]; exact Nat.le_of_ble_eq_true rfl
set_option maxRecDepth 100000 in
set_option maxHeartbeats 4000000 in
theorem changed_calls (B N : Nat) (s : ByteArray) (w : World) (hs : St w B N) (hN : N ≤ 3990000) (hsz : s.size ≤ 900) :
    Calls Tryz.prog 20 #[.pointer (some ⟨B, 0, none⟩), .string s, .string C_rchars] w (Dr B (N + 3) (ShortS (s.size + 8)) w) := by
  by_cases h0 : s.size = 0
  · have he : s.toList.isEmpty = true := by rw [empty_of]; simp [h0]
    go_enter Tryz.func20, Tryz.ntmps20
    go_wp2_with fail
    go_ret
    exact ⟨_, ⟨C_rchars, rfl, by show (8 : Nat) ≤ _; omega⟩, rfl, hs.mono (by omega), gb_refl _ _⟩
  · have he : s.toList.isEmpty = false := by rw [empty_of]; simp [h0]
    have he2 : C_rchars.toList.isEmpty = false := by rw [empty_of]; rfl
    have hc8 : C_rchars.size = 8 := rfl
    generalize C_rchars = cs at he2 hc8 ⊢
    go_enter Tryz.func20, Tryz.ntmps20
    go_wp2_with fail
    refine (next_calls B N (s.size : Int) w hs (by omega) (by omega) (by omega)).mono ?_
    rintro e w1 ⟨v, ⟨r, rfl, hr⟩, rfl, hs1, hg1⟩
    go_wp2_with fail
    refine (next_calls B (N + 1) 8 w1 hs1 (by omega) (by omega) (by omega)).mono ?_
    rintro e w2 ⟨v, ⟨c, rfl, hc⟩, rfl, hs2, hg2⟩
    have hcb : c < cs.size := by omega
    go_wp2_with fail
    refine (next_calls B (N + 2) 3 w2 hs2 (by omega) (by omega) (by omega)).mono ?_
    rintro e w3 ⟨v, ⟨d, rfl, hd⟩, rfl, hs3, hg3⟩
    have hg := gb_trans hg1 (gb_trans hg2 hg3)
    have Hs3 := Lib.hid hs3
    have Hg := Lib.hid hg
    have hx0 : 0 ≤ (cs[c].toNat : Int) := by omega
    have hrs : r < s.size := by omega
    have hrs2 : r ≤ s.size := by omega
    have hrs3 : r + 1 ≤ s.size := by omega
    have x1 : IntKind.i64.wrap ((r : Int) + 1) = ((r + 1 : Nat) : Int) := by rw [IntWalk.i64_in _ (by omega)]; omega
    have hz8 : cs[c].toNat < 256 := UInt8.toNat_lt _
    generalize cs[c].toNat = z at hx0 hz8
    have x2 : IntKind.i32.wrap (z : Int) = (z : Int) := IntWalk.i32_in _ (by omega)
    have henc := enc_le (z : Int)
    have hsl : s.size ≤ 9223372036854775807 := by omega
    clear hs1 hs2 hs3 hg1 hg2 hg3 hg hs h0 hcb hc hr
    have hcases : d = 0 ∨ d = 1 ∨ d = 2 := by omega
    clear hd
    rcases hcases with rfl | rfl | rfl
    · go_wp2_with fail
      go_region
      all_goals (go_wp2_with fail)
      all_goals go_ret
      all_goals exact ⟨_, ⟨_, rfl, by simp only [ByteArray.size_append, ByteArray.size_extract]; omega⟩, rfl, (Hs3.out.below (Below.refl _ _).drew).mono (by omega), gb_trans Hg.out (gb_drewN _ 1 _)⟩
    · go_wp2_with fail
      go_region
      all_goals (go_wp2_with fail)
      all_goals go_ret
      all_goals exact ⟨_, ⟨_, rfl, by simp only [ByteArray.size_append, ByteArray.size_extract]; omega⟩, rfl, (Hs3.out.below (Below.refl _ _).drew).mono (by omega), gb_trans Hg.out (gb_drewN _ 1 _)⟩
    · go_wp2_with fail
      go_region
      all_goals (go_wp2_with fail)
      all_goals go_ret
      all_goals exact ⟨_, ⟨_, rfl, by simp only [ByteArray.size_append, ByteArray.size_extract]; omega⟩, rfl, (Hs3.out.below (Below.refl _ _).drew).mono (by omega), gb_trans Hg.out (gb_drewN _ 1 _)⟩
theorem rows_take {w : World} {T lo sz g off n c m : Nat} {rows : List (List Value)} (h : Rows w T lo sz (.slice (some ⟨g, off, none⟩) n c) rows) (hn : n = rows.length) (hm : m ≤ n) : Rows w T lo sz (.slice (some ⟨g, off, none⟩) m c) (rows.take m) := by
  have hf := h.fits
  have e0 : (rows.take m).length = m := by simp; omega
  have hsm := h.small
  rcases h.shape with ⟨e, _⟩ | ⟨g', off', cap, cur, fr, e, h2, h3, h4⟩
  · cases e
  · simp only [Value.slice.injEq, Option.some.injEq, Addr.mk.injEq, and_true] at e
    obtain ⟨⟨rfl, rfl⟩, _, rfl⟩ := e
    refine ⟨by omega, fun r hr => h.each r (List.mem_of_mem_take hr), .inr ⟨g, off, c, cur, fr, by rw [e0], ⟨h2.1, by rw [e0]; omega⟩, h3, fun i j u hu => ?_⟩⟩
    refine h4 i j u ?_
    rw [List.getElem?_take] at hu
    split at hu
    · exact hu
    · simp at hu
theorem rls_take {w : World} {lo n c m : Nat} {a : Option Addr} {rs : List RD} (h : Rls w lo (.slice a n c) rs) (hn : n = rs.length) (hm : m ≤ n) : Rls w lo (.slice a m c) (rs.take m) := by
  rcases rls_at h with ⟨e, rfl⟩ | ⟨g, off, cap, e, _⟩
  · have h0 : m = 0 := by simp at hn; omega
    subst h0
    simp only [List.length_nil] at hn
    subst hn
    simpa using h
  · simp only [Value.slice.injEq] at e
    obtain ⟨rfl, _, rfl⟩ := e
    have := rows_take (m := m) h (by simpa using hn) hm
    unfold Rls
    rw [List.map_take]
    exact this
theorem lineR_tight {r : RD} (h : TightR r) : (lineR r).size ≤ 270 := by
  obtain ⟨⟨_, _, _, _, hm, hnu, hde⟩, hk, hst, hp, hk1, hk4⟩ := h
  have h1 := join_le [32] 44 ((ruleW r).map (·.data.toList)) fun x hx => by
    obtain ⟨k, hk', rfl⟩ := List.mem_map.1 hx
    rw [len_size]
    simp only [ruleW, List.mem_cons, List.not_mem_nil, or_false] at hk'
    rcases hk' with rfl | rfl | rfl | rfl | rfl | rfl
    · omega
    · omega
    · unfold dashS
      split
      · decide
      · omega
    · unfold kindS; split <;> (try split) <;> (try split) <;> decide
    · have := itoaS_size hm; omega
    · have h2 := itoaS_size hnu
      have h3 := itoaS_size hde
      unfold frS
      simp only [ByteArray.size_append]
      have e1 : (⟨#[47]⟩ : ByteArray).size = 1 := rfl
      omega
  rw [List.length_map] at h1
  have e : (lineR r).size = (Lib.join ((ruleW r).map (·.data.toList)) [32]).length := by unfold lineR; show (List.toArray _).size = _; simp
  have e6 : (ruleW r).length = 6 := rfl
  rw [e6] at h1
  rw [e]; omega
theorem bytesRl_tight {rs : List RD} (h : ∀ r ∈ rs, TightR r) : (bytesRl rs).length ≤ rs.length * 271 := by
  induction rs with
  | nil => simp [bytesRl]
  | cons r rs ih =>
    have h1 := lineR_tight (h r (by simp))
    have h2 := ih fun x hx => h x (by simp [hx])
    have e : bytesRl (r :: rs) = ((lineR r).data.toList ++ [10]) ++ bytesRl rs := by simp [bytesRl]
    rw [e, List.length_append, List.length_append, len_size, List.length_cons]
    simp only [List.length_cons, List.length_nil]
    omega
set_option maxRecDepth 100000 in
set_option maxHeartbeats 4000000 in
theorem ruleText_calls (B N : Nat) (w : World) (hs : St w B N) (hN : N ≤ 3970000) (hD : ∀ w', w.grownBy w' (some B) → DigB w') :
    Calls Tryz.prog 5 #[.pointer (some ⟨B, 0, none⟩)] w (Dr B (N + 60) (ShortS 840) w) := by
  go_enter Tryz.func5, Tryz.ntmps5
  go_wp2_with fail
  refine (rightRulesT_calls B N w hs (by omega)).mono ?_
  rintro e w1 ⟨v, ⟨rs, hP, hpl, hgd⟩, rfl, hs1, hg1⟩
  have hPl := rls_of_owns hP (by omega)
  obtain ⟨m, hm⟩ : ∃ m, m = min rs.length 3 := ⟨_, rfl⟩
  have hm3 : m ≤ 3 := by omega
  have hmn : m ≤ rs.length := by omega
  have hlen : (bytesRl (rs.take m)).length ≤ 813 := by
    have h1 := bytesRl_tight (rs := rs.take m) fun p hp => hgd p (List.mem_of_mem_take hp)
    have h2 : (rs.take m).length ≤ 3 := by simp; omega
    have h3 := Nat.mul_le_mul_right 271 h2
    omega
  obtain ⟨va, vc, rfl⟩ := rls_shape hPl
  have hPm : Rls w1 w.heap.size (.slice va m vc) (rs.take m) := rls_take hPl rfl hmn
  have hvc : rs.length ≤ vc := by
    have := Rows.fits hPl
    simpa using this
  have C1 := Lib.hid (ruleLines_calls _ _ (rs.take m) w1 hPm (fun p hp => (hgd p (List.mem_of_mem_take hp)).1) (by simp; omega) (fun p hp => (hgd p (List.mem_of_mem_take hp)).2.2.2.2) (hD w1 hg1))
  have hm' : min (rs.length : Int) 3 = (m : Int) := by omega
  have Hs1 := Lib.hid hs1
  have Hg1 := Lib.hid hg1
  have hmc : m ≤ vc := by omega
  have hmc' : (m : Int) ≤ (vc : Int) := by omega
  have hN1 : N + 40 + 1 ≤ 4000000 := by omega
  clear hs hs1 hg1 hgd hP hPl hPm hm hD
  go_wp2_with fail
  refine C1.out.mono ?_
  rintro e w2 ⟨rfl, hb2⟩
  have hg2 := gb_trans Hg1.out (gb_below hb2 (some B))
  have hs2 : St w2 B (N + 40) := Stm.below Hs1.out hb2
  have hsz0 : (textRl (rs.take m)).size ≤ 813 := by
    rw [textRl_size]; exact hlen
  generalize textRl (rs.take m) = t0 at hsz0 ⊢
  clear Hs1 Hg1 hb2 C1 hlen
  go_wp2_with fail
  refine (pick_calls B (N + 40) w2.heap.size _ [0, 0, 1, 2] _ (hs2.alloc _) (by omega) (ints_new w2 [0, 0, 1, 2] (by decide)) hs2.lt (by simp)).mono ?_
  rintro e w3 ⟨v, ⟨kd, rfl, hkd⟩, rfl, hs3, hg3⟩
  have hkd' : 0 ≤ kd ∧ kd ≤ 2 := by
    simp only [List.mem_cons, List.not_mem_nil, or_false] at hkd
    omega
  have hg03 := gb_trans hg2 (gb_trans (gb_alloc w2 (.cells ([0, 0, 1, 2].map (Value.int .i64)).toArray 3) (some B)) hg3)
  clear hkd hs2 hg2 hg3
  go_wp2_with fail
  go_loopw [4, 16] (fun t i wr => ∃ (j : Nat) (u : ByteArray), i = .int .i64 (j : Int) ∧ j ≤ 2 ∧ t = .string u ∧ u.size ≤ 813 + 8 * j ∧ St wr B (N + 41 + 3 * j) ∧ w.grownBy wr (some B)) (fun _ i _ => 2 - (intOf i).toNat)
  case atStart => exact ⟨0, t0, rfl, by omega, rfl, by omega, hs3.mono (by omega), hg03⟩
  case round =>
    obtain ⟨j, u, rfl, hj, rfl, hu, hsr, hgr⟩ := hrel
    clear hs3 hg03
    by_cases hlt : (j : Int) < kd
    · have hsr' := Lib.hid hsr
      have hgr' := Lib.hid hgr
      have C2 := Lib.hid (changed_calls B (N + 41 + 3 * j) u wr hsr (by omega) (by omega))
      have x1 : IntKind.i64.wrap ((j : Int) + 1) = ((j + 1 : Nat) : Int) := by rw [IntWalk.i64_in _ (by omega)]; omega
      clear hsr hgr
      go_wp2_with fail
      refine C2.out.mono ?_
      rintro e w4 ⟨v, ⟨u4, rfl, hu4⟩, rfl, hs4, hg4⟩
      go_wp2_with fail
      have x2 : (j : Int) + 1 = ((j + 1 : Nat) : Int) := by omega
      rw [x2]
      exact ⟨⟨j + 1, u4, rfl, by omega, rfl, by omega, hs4.mono (by omega), gb_trans hgr'.out hg4⟩, by show 2 - ((j + 1 : Nat) : Int).toNat < 2 - ((j : Nat) : Int).toNat; omega⟩
    · go_wp2_with fail
      go_ret
      exact ⟨_, ⟨u, rfl, by omega⟩, rfl, hsr.mono (by omega), hgr⟩

/-- A text's first line, what is behind it, and whether the line is ended. -/
def cutL (s : ByteArray) : ByteArray × ByteArray × Bool := (⟨(Lib.cut s.data.toList [10]).1.toArray⟩, ⟨(Lib.cut s.data.toList [10]).2.1.toArray⟩, (Lib.cut s.data.toList [10]).2.2)
theorem size_mk (l : List UInt8) : (⟨l.toArray⟩ : ByteArray).size = l.length := by show (List.toArray l).size = _; simp
theorem cutL_line (s : ByteArray) : (cutL s).1.size ≤ s.size := by
  unfold cutL
  rw [size_mk]
  have e : s.data.toList.length = s.size := by rw [Array.length_toList]; rfl
  unfold Lib.cut
  split
  · simp; omega
  · show s.data.toList.length ≤ s.size; omega
theorem cutL_rest {s : ByteArray} (h : (cutL s).2.2 = true) : (cutL s).2.1.size < s.size := by
  unfold cutL at h ⊢
  simp only at h ⊢
  rw [size_mk]
  have e : s.data.toList.length = s.size := by rw [Array.length_toList]; rfl
  unfold Lib.cut at h ⊢
  split
  · rename_i h'
    have := Lib.index_room s.data.toList [10] h'
    have e1 : ([10] : List UInt8).length = 1 := rfl
    rw [e1] at this
    show (s.data.toList.drop ((Lib.index s.data.toList [10]).toNat + ([10] : List UInt8).length)).length < s.size
    rw [List.length_drop, e1]
    omega
  · rename_i h'
    rw [if_neg h'] at h
    cases h
theorem cutM_calls (s : ByteArray) (w : World) (hs : s.size ≤ 1000000) (hG : GlobT w) :
    Calls Tryz.prog 63 #[.string s, .string ⟨#[10]⟩] w fun e w' => e = .returned (.tuple #[.string (cutL s).1, .string (cutL s).2.1, .bool (cutL s).2.2]) ∧ Below w.heap.size w w' := by
  obtain ⟨m, hm⟩ := hG.max
  refine (Tryz.strings_Cut s ⟨#[10]⟩ m w (by omega) hm).mono ?_
  rintro e w' ⟨rfl, n, rfl⟩
  exact ⟨rfl, have h := Below.refl w.heap.size w; ⟨h.os, h.tape, h.output, h.size, h.block⟩⟩
/-- Lines taken one by one: the players, the number of the line reached, and whether all were right. -/
def readGo : Nat → ByteArray → List RD → Nat → List RD × Nat × Bool
  | 0, _, L, n => (L, n, true)
  | f + 1, s, L, n => if s.toList.isEmpty then (L, n, true) else if (cutL s).2.2 && ruleB (cutL s).1 then readGo f (cutL s).2.1 (L ++ [ruleL (cutL s).1]) (n + 1) else ([], n, false)
theorem empty_size {s : ByteArray} (h : s.toList.isEmpty = false) : 0 < s.size := by
  rw [empty_of] at h
  have := of_decide_eq_false h
  omega
theorem readGo_end {f : Nat} {s : ByteArray} {L : List RD} {n : Nat} (h : s.toList.isEmpty = true) : readGo f s L n = (L, n, true) := by
  cases f with
  | zero => rfl
  | succ f => unfold readGo; rw [if_pos h]
theorem readGo_bad {f : Nat} {s : ByteArray} {L : List RD} {n : Nat} (hf : s.size ≤ f) (h : s.toList.isEmpty = false) (hb : ((cutL s).2.2 && ruleB (cutL s).1) = false) : readGo f s L n = ([], n, false) := by
  have := empty_size h
  cases f with
  | zero => omega
  | succ f => unfold readGo; rw [h, hb]; rfl
theorem readGo_ok {f : Nat} {s : ByteArray} {L : List RD} {n : Nat} (hf : s.size ≤ f) (h : s.toList.isEmpty = false) (hb : ((cutL s).2.2 && ruleB (cutL s).1) = true) : ∃ f', readGo f s L n = readGo f' (cutL s).2.1 (L ++ [ruleL (cutL s).1]) (n + 1) ∧ (cutL s).2.1.size ≤ f' := by
  have := empty_size h
  cases f with
  | zero => omega
  | succ f =>
    refine ⟨f, by rw [readGo, h, hb]; rfl, ?_⟩
    rw [Bool.and_eq_true] at hb
    have := cutL_rest hb.1
    omega
/-- What Read answers: rules, a line's number, an error. -/
def readR (u : ByteArray) : List RD × Int × Int :=
  let r := readGo u.size u [] 0
  if r.2.2 then (if chkRl r.1 = 0 then (r.1, 0, 0) else ([], 0, chkRl r.1)) else ([], (r.2.1 : Int), 9)
def strLen : Value → Nat
  | .string s => s.size
  | _ => 0
theorem rls_nilT (w : World) (lo : Nat) : Rls w lo (.slice none 0 0) [] := rls_of_owns (ts := []) (World.ownsRow_nil _ _ _ _) (by simp)
theorem ruleL_small (s : ByteArray) (hs : s.size ≤ 950) : SmallR (ruleL s) := by
  have hw : ∀ i, (strAt (wsL s) i).size ≤ 950 := fun i => Nat.le_trans (strAt_size (splitB_size _ _ _) i) hs
  have hk := kindI_bound (strAt (wsL s) 3)
  have hn : ∀ l : List UInt8, Int64 ((numV l).getD 0) := fun l => by
    cases h : numV l with
    | none => show Int64 0; unfold Int64; omega
    | some n => have := numV_small h; show Int64 n; unfold Int64; omega
  have hf : ∀ l : List UInt8, Int64 ((fracV l).getD (0, 0)).1 ∧ Int64 ((fracV l).getD (0, 0)).2 := fun l => by
    cases h : (fracV l).isSome with
    | true => rw [fracV_get h]; exact ⟨hn _, hn _⟩
    | false => rw [fracV_nil h]; constructor <;> (show Int64 0; unfold Int64; omega)
  refine ⟨Nat.le_trans (hw 0) (by omega), Nat.le_trans (hw 1) (by omega), ?_, ?_, hn _, (hf _).1, (hf _).2⟩
  · show (undashS _).size ≤ 1000
    unfold undashS
    split
    · decide
    · exact Nat.le_trans (hw 2) (by omega)
  · show Int64 (kindI _); unfold Int64; omega
set_option maxRecDepth 100000 in
set_option maxHeartbeats 8000000 in
theorem readLines_calls (u : ByteArray) (w : World) (hu : u.size ≤ 900) (hG : GlobT w) :
    Calls Tryz.prog 34 #[.string u, .func (.func 35) #[] #[], .func (.func 21) #[] #[]] w fun e w' =>
      ∃ v, e = .returned (.tuple #[v, .int .i64 (readR u).2.1, .int .i64 (readR u).2.2]) ∧ Rls w' w.heap.size v (readR u).1 ∧ Below w.heap.size w w' := by
  obtain ⟨j0, hj, hy0, hy1, hy2⟩ := info_parts info_rl
  have HR := Lib.hid (show readR u = if (readGo u.size u [] 0).2.2 then (if chkRl (readGo u.size u [] 0).1 = 0 then ((readGo u.size u [] 0).1, 0, 0) else ([], 0, chkRl (readGo u.size u [] 0).1)) else ([], ((readGo u.size u [] 0).2.1 : Int), 9) from rfl)
  have d0 : decide ((200000 : Int) < (u.size : Int)) = false := decide_eq_false (by omega)
  obtain ⟨T, hT⟩ : ∃ T, readGo u.size u [] 0 = T := ⟨_, rfl⟩
  rw [hT] at HR
  have HT := Lib.hid hT
  have HG := Lib.hid hG
  generalize readR u = R at HR ⊢
  clear hT hG
  go_enter Tryz.func34, Tryz.ntmps34
  go_wp2_with fail
  clear d0
  go_loopw [0, 9, 10] (fun t v i wr => ∃ (f : Nat) (s : ByteArray) (L : List RD) (n : Nat), t = .string s ∧ i = .int .i64 n ∧ Hid (readGo f s L n = T) ∧ s.size ≤ f ∧ s.size ≤ 900 ∧ L.length + s.size ≤ 900 ∧ n + s.size ≤ 900 ∧ wr.ownsRow w.heap.size 40 7 v L.length (L.map rlRow).flatten ∧ Hid (∀ p ∈ L, SmallR p) ∧ Below w.heap.size w wr) (fun t _ _ _ => strLen t)
  case atStart => exact ⟨u.size, u, [], 0, rfl, rfl, HT, Nat.le_refl _, hu, by simpa using hu, by simpa using hu, World.ownsRow_nil _ _ _ _, Lib.hid (by simp), Below.refl _ _⟩
  case round =>
    obtain ⟨f, s, L, n, rfl, rfl, Hgo, hf, hs, hL, hn, HP, HSm, hb⟩ := hrel
    cases he : s.toList.isEmpty
    · have hpos := empty_size he
      have C1 := Lib.hid (cutM_calls s wr (by omega) (HG.out.below hb))
      have hl := cutL_line s
      have Hbad := Lib.hid (fun h => readGo_bad (L := L) (n := n) hf he h)
      have Hok := Lib.hid (fun h => readGo_ok (L := L) (n := n) hf he h)
      have Hrest := Lib.hid (fun h => cutL_rest (s := s) h)
      generalize (cutL s).1 = ln at C1 hl Hbad Hok
      generalize (cutL s).2.1 = rs at C1 Hok Hrest
      generalize (cutL s).2.2 = en at C1 Hbad Hok Hrest
      have hsz := hb.size
      have HP0 := Lib.hid HP
      clear HP
      go_wp2_with fail
      refine C1.out.mono ?_
      rintro e w1 ⟨rfl, hb1⟩
      have hb01 := below_step hb hb1
      have hs1 := hb1.size
      have HP1 := Lib.hid (own_below HP0.out hb1)
      have C2 := Lib.hid (parse_calls ln w1 (by omega) (HG.out.below hb01))
      clear C1 hb1 HP0
      go_wp2_with fail
      refine C2.out.mono ?_
      rintro e w2 ⟨r, rfl, hr, hb2⟩
      have Hr := Lib.hid hr
      have hb02 := below_step hb01 hb2
      have hs2 := hb2.size
      have HP2 := Lib.hid (own_below HP1.out hb2)
      unfold rlV
      clear C2 hb2 HP1 hb01 hr
      cases en
      · have hr := Lib.hid (show R = ([], (n : Int), 9) by
          have h1 := Hbad.out (by rfl)
          rw [HR.out, ← Hgo.out, h1]; rfl)
        clear Hbad Hok Hrest HR
        go_wp2_with fail
        go_ret3
        refine ⟨.slice none 0 0, by rw [hr.out]; rfl, by rw [hr.out]; exact rls_nilT _ _, ?_⟩
        exact below_step hb02 (below_alloc w2 _)
      · cases hp : ruleB ln
        · have hr := Lib.hid (show R = ([], (n : Int), 9) by
            have h1 := Hbad.out (by rw [hp]; rfl)
            rw [HR.out, ← Hgo.out, h1]; rfl)
          clear Hbad Hok Hrest HR Hr
          go_wp2_with fail
          go_ret3
          refine ⟨.slice none 0 0, by rw [hr.out]; rfl, by rw [hr.out]; exact rls_nilT _ _, ?_⟩
          exact below_step hb02 (below_alloc w2 _)
        · obtain ⟨f', hgo, hf'⟩ := Hok.out (by rw [hp]; rfl)
          have hrs := Hrest.out rfl
          obtain rfl := Hr.out hp
          have hsm := ruleL_small ln (by omega)
          have Hgo' := Lib.hid (hgo.symm.trans Hgo.out)
          generalize ruleL ln = p at Hgo' hsm ⊢
          have HSm' := Lib.hid (show ∀ q ∈ L ++ [p], SmallR q from fun q hq => by
            rcases List.mem_append.1 hq with h | h
            · exact HSm.out q h
            · rw [List.mem_singleton.1 h]; exact hsm)
          obtain ⟨W3, hW3⟩ : ∃ W3, W3 = w2.alloc (.cells #[.string p.key, .string p.stat, .string p.pos, .int .i64 p.kind, .int .i64 p.many, .int .i64 p.num, .int .i64 p.den] 40) := ⟨_, rfl⟩
          obtain ⟨X, hX⟩ : ∃ X, X = w2.heap.size := ⟨_, rfl⟩
          have hb3 : Below w2.heap.size w2 W3 := by rw [hW3]; exact below_alloc w2 _
          have hx : W3.heap[X]? = some (.cells #[.string p.key, .string p.stat, .string p.pos, .int .i64 p.kind, .int .i64 p.many, .int .i64 p.num, .int .i64 p.den] 40 (0, 0)) := by rw [hW3, hX]; exact heap_alloc_new w2 _
          have x0 := cell_at hx 0 rfl
          have x1 := cell_at hx 1 rfl
          have x2 := cell_at hx 2 rfl
          have x3 := cell_at hx 3 rfl
          have x4 := cell_at hx 4 rfl
          have x5 := cell_at hx 5 rfl
          have x6 := cell_at hx 6 rfl
          have hrow3 : W3.ownsRow w.heap.size 40 7 u9 L.length (L.map rlRow).flatten := by rw [hW3]; exact World.ownsRow.alloc HP2.out _
          have hb03 := below_step hb02 hb3
          have hs3 := hb3.size
          have HX := Lib.hid hX
          have HW3 := Lib.hid hW3
          have Hb3 := Lib.hid hb3
          clear Hbad Hok Hrest hgo hsm HP2 HSm Hgo Hr HR hW3 hX hb3 hb02 hx
          go_upto_region 9 with fail
          rw [← HW3.out, ← HX.out]
          clear HW3 HX
          go_wp2_with (at_builtin; refine wpList_append_own _ rfl _ _ 26 rfl w.heap.size 40 j0 (.agg #[.string ⟨#[]⟩, .string ⟨#[]⟩, .string ⟨#[]⟩, .int .i64 0, .int .i64 0, .int .i64 0, .int .i64 0]) 7 80 Tryz.underlying26 hj hy0 hy1 hy2 rfl (by decide) _ _ _ rfl (hrow3.alloc _) ⟨W3.heap.size, 0, none⟩ 1 1 (rlRow p) rfl rfl ?c1 ?c2 ?c3 ?c4 ?c5 ?_)
          case c1 => exact cells_new _ _ _
          case c2 => simp [rlRow, Value.oneCell']
          case c3 => unfold maxLen; omega
          case c4 => omega
          case c5 => simp; omega
          intro v' w7 hown7 hgrow _
          have hB7 : Below w.heap.size w w7 := (hb03.trans ((below_alloc W3 (.cells (rlRow p).toArray 40)).mono (by omega))).grown hgrow (by simp; omega) fun r hr => (own_block hrow3 r hr).1
          have hO7 : w7.ownsRow w.heap.size 40 7 v' (L ++ [p]).length ((L ++ [p]).map rlRow).flatten := by rw [flat_snoc]; simpa using hown7
          clear hown7 hgrow hrow3 x0 x1 x2 x3 x4 x5 x6 hb03
          go_wp2_with fail
          go_roundw
          case rel => exact ⟨f', rs, L ++ [p], n + 1, rfl, by go_num, Hgo', hf', by omega, by simp; omega, by omega, hO7, HSm', hB7⟩
          case measure => simp [strLen]; omega
    · have hr := Lib.hid (show T = (L, n, true) by rw [← Hgo.out]; exact readGo_end he)
      have hPl := rls_of_owns HP (by omega)
      have HPl := Lib.hid hPl
      obtain ⟨va, vc, rfl⟩ := rls_shape hPl
      have C1 := Lib.hid (checkRules_calls w.heap.size _ L wr hPl HSm.out (by omega))
      have HR' := Lib.hid (show R = if chkRl L = 0 then (L, 0, 0) else ([], 0, chkRl L) by rw [HR.out, hr.out]; rfl)
      generalize chkRl L = X at C1 HR'
      clear hPl HR hr Hgo HP
      go_wp2_with fail
      refine C1.out.mono ?_
      rintro e w1 ⟨rfl, hb1⟩
      have HP1 := Lib.hid (HPl.out.below hb1)
      have hb01 := below_step hb hb1
      by_cases hz : X = 0
      · have e1 : (X != 0) = false := by simp [hz]
        have HR2 := Lib.hid (show R = (L, 0, 0) by rw [HR'.out, if_pos hz])
        clear hz C1 hb1
        go_wp2_with fail
        go_ret3
        exact ⟨_, by rw [HR2.out]; rfl, by rw [HR2.out]; exact HP1.out, hb01⟩
      · have e1 : (X != 0) = true := by simp [hz]
        have HR2 := Lib.hid (show R = ([], 0, X) by rw [HR'.out, if_neg hz])
        clear hz C1 hb1
        go_wp2_with fail
        go_ret3
        exact ⟨.slice none 0 0, by rw [HR2.out]; rfl, by rw [HR2.out]; exact rls_nilT _ _, hb01⟩
set_option maxRecDepth 100000 in
set_option maxHeartbeats 2000000 in
theorem read_calls (u : ByteArray) (w : World) (hu : u.size ≤ 900) (hG : GlobT w) :
    Calls Tryz.prog 9 #[.string u] w fun e w' => ∃ v, e = .returned (.tuple #[v, .int .i64 (readR u).2.1, .int .i64 (readR u).2.2]) ∧ Rls w' w.heap.size v (readR u).1 ∧ Below w.heap.size w w' := by
  have C := Lib.hid (readLines_calls u w hu hG)
  generalize readR u = R at C ⊢
  clear hG
  go_enter Tryz.func9, Tryz.ntmps9
  go_wp2_with fail
  refine C.out.mono ?_
  rintro e w1 ⟨v, rfl, hP, hb⟩
  obtain ⟨a, c, rfl⟩ := rls_shape hP
  have HP := Lib.hid hP
  clear hP C
  go_wp2_with fail
  go_ret3
  exact ⟨_, rfl, HP.out, hb⟩

theorem rls_monoT {w : World} {lo lo' : Nat} {v : Value} {rs : List RD} (h : Rls w lo v rs) (hl : lo' ≤ lo) : Rls w lo' v rs := Rows.mono h hl
def numR (T : List RD × Nat × Bool) : Int := if T.2.2 then 0 else (T.2.1 : Int)
def takeFn (O : Nat) : Value := .func (.func 37) #[] #[.pointer (some ⟨O, 0, none⟩)]
set_option maxRecDepth 100000 in
set_option maxHeartbeats 8000000 in
theorem linesR_calls (u : ByteArray) (O base : Nat) (w : World) (hu : u.size ≤ 900) (hG : ∀ w', Below O w w' → GlobT w') (hO : OutR w base O []) (hOb : O < base) (hbase : base ≤ w.heap.size) :
    Calls Tryz.prog 36 #[.string u, takeFn O] w fun e w' => ∃ L, e = .returned (.tuple #[.int .i64 (numR (readGo u.size u [] 0)), .bool (readGo u.size u [] 0).2.2]) ∧
      OutR w' base O L ∧ L.length ≤ 10000 ∧ ((readGo u.size u [] 0).2.2 = true → L = (readGo u.size u [] 0).1 ∧ ∀ p ∈ L, SmallR p) ∧ Below O w w' := by
  obtain ⟨T, hT⟩ : ∃ T, readGo u.size u [] 0 = T := ⟨_, rfl⟩
  rw [hT]
  have HT := Lib.hid hT
  have HG := Lib.hid hG
  have HO := Lib.hid hO
  clear hT hG hO
  unfold takeFn
  go_enter Tryz.func36, Tryz.ntmps36
  go_wp2_with fail
  go_loopw [0, 6] (fun t i wr => ∃ (f : Nat) (s : ByteArray) (L : List RD) (n : Nat), t = .string s ∧ i = .int .i64 n ∧ Hid (readGo f s L n = T) ∧ s.size ≤ f ∧ s.size ≤ 900 ∧ L.length + s.size ≤ 900 ∧ n + s.size ≤ 900 ∧ Hid (OutR wr base O L) ∧ base ≤ wr.heap.size ∧ Hid (∀ p ∈ L, SmallR p) ∧ Below O w wr) (fun t _ _ => strLen t)
  case atStart => exact ⟨u.size, u, [], 0, rfl, rfl, HT, Nat.le_refl _, hu, by simpa using hu, by simpa using hu, HO, hbase, Lib.hid (by simp), Below.refl _ _⟩
  case round =>
    obtain ⟨f, s, L, n, rfl, rfl, Hgo, hf, hs, hL, hn, HP, hbw, HSm, hb⟩ := hrel
    cases he : s.toList.isEmpty
    · have hpos := empty_size he
      have C1 := Lib.hid (cutM_calls s wr (by omega) (HG.out _ hb))
      have hl := cutL_line s
      have Hbad := Lib.hid (fun h => readGo_bad (L := L) (n := n) hf he h)
      have Hok := Lib.hid (fun h => readGo_ok (L := L) (n := n) hf he h)
      have Hrest := Lib.hid (fun h => cutL_rest (s := s) h)
      generalize (cutL s).1 = ln at C1 hl Hbad Hok
      generalize (cutL s).2.1 = rs at C1 Hok Hrest
      generalize (cutL s).2.2 = en at C1 Hbad Hok Hrest
      go_wp2_with fail
      refine C1.out.mono ?_
      rintro e w1 ⟨rfl, hb1⟩
      have hb01 := hb.trans (hb1.mono (by omega))
      have hs1 := hb1.size
      have HP1 := Lib.hid (HP.out.below hb1)
      have C2 := Lib.hid (ruleR1_calls ln O base L w1 (by omega) (HG.out _ hb01) HP1.out hOb (by omega) (by omega))
      clear C1 hb1 HP hb
      cases en
      · have hr := Lib.hid (show T = ([], n, false) by rw [← Hgo.out]; exact Hbad.out (by rfl))
        clear Hbad Hok Hrest C2 Hgo HT
        go_wp2_with fail
        go_ret2
        rw [hr.out]
        exact ⟨L, rfl, HP1.out, by omega, by simp, hb01⟩
      · go_wp2_with fail
        refine C2.out.mono ?_
        rintro e w2 ⟨L', rfl, hO2, hL', hLe, hb2, hs12⟩
        have HO2 := Lib.hid hO2
        have hb02 := hb01.trans hb2
        have hs2 := hb2.size
        have HLe := Lib.hid hLe
        clear C2 hO2 hb2 HP1 hb01 hLe
        cases hp : ruleB ln
        · have hr := Lib.hid (show T = ([], n, false) by rw [← Hgo.out]; exact Hbad.out (by rw [hp]; rfl))
          clear Hbad Hok Hrest Hgo HT
          go_wp2_with fail
          go_ret2
          rw [hr.out]
          exact ⟨_, rfl, HO2.out, by omega, by simp, hb02⟩
        · obtain ⟨f', hgo, hf'⟩ := Hok.out (by rw [hp]; rfl)
          have hrs := Hrest.out (by first | rfl | trivial)
          obtain rfl := HLe.out hp
          have HO3 := HO2
          have hsm := ruleL_small ln (by omega)
          have Hgo' := Lib.hid (hgo.symm.trans Hgo.out)
          generalize ruleL ln = p at HO3 Hgo' hsm
          have HSm' := Lib.hid (show ∀ q ∈ L ++ [p], SmallR q from fun q hq => by
            rcases List.mem_append.1 hq with h | h
            · exact HSm.out q h
            · rw [List.mem_singleton.1 h]; exact hsm)
          clear Hbad Hok Hrest hgo Hgo HO2 hsm HSm HLe
          go_wp2_with fail
          go_roundw
          case rel => exact ⟨f', rs, L ++ [p], n + 1, rfl, by go_num, Hgo', hf', by omega, by simp; omega, by omega, HO3, by omega, HSm', hb02⟩
          case measure => simp [strLen]; omega
    · have hr := Lib.hid (show T = (L, n, true) by rw [← Hgo.out]; exact readGo_end he)
      clear Hgo HT
      go_wp2_with fail
      go_ret2
      rw [hr.out]
      exact ⟨L, rfl, HP.out, by omega, fun _ => ⟨rfl, HSm.out⟩, hb⟩
set_option maxRecDepth 100000 in
set_option maxHeartbeats 4000000 in
theorem rulesRead_calls (u : ByteArray) (w : World) (hu : u.size ≤ 900) (hG : GlobT w) :
    Calls Tryz.prog 10 #[.string u] w fun e w' => ∃ v, e = .returned (.tuple #[v, .int .i64 (readR u).2.1, .int .i64 (readR u).2.2]) ∧ Rls w' w.heap.size v (readR u).1 ∧ Below w.heap.size w w' := by
  have HR := Lib.hid (show readR u = if (readGo u.size u [] 0).2.2 then (if chkRl (readGo u.size u [] 0).1 = 0 then ((readGo u.size u [] 0).1, 0, 0) else ([], 0, chkRl (readGo u.size u [] 0).1)) else ([], ((readGo u.size u [] 0).2.1 : Int), 9) from rfl)
  have d0 : decide ((200000 : Int) < (u.size : Int)) = false := decide_eq_false (by omega)
  obtain ⟨W, hW⟩ : ∃ W, W = w.alloc (.cells #[.slice none 0 0] 26) := ⟨_, rfl⟩
  have hwW : Below w.heap.size w W := by rw [hW]; exact below_alloc w _
  have hO : OutR W (w.heap.size + 1) w.heap.size [] := ⟨.slice none 0 0, by rw [hW]; exact heap_alloc_new w _, World.ownsRow_nil _ _ _ _⟩
  have C1 := Lib.hid (linesR_calls u w.heap.size (w.heap.size + 1) W hu (fun w' h => hG.below (hwW.trans h)) hO (by omega) (by rw [hW]; simp))
  have HW := Lib.hid hW
  have HG := Lib.hid hG
  generalize readGo u.size u [] 0 = T at HR C1
  generalize readR u = R at HR ⊢
  clear hG hO hW
  go_enter Tryz.func10, Tryz.ntmps10
  go_upto_region 4 with fail
  rw [← HW.out]
  clear HW d0
  go_wp2_with fail
  refine C1.out.mono ?_
  rintro e w1 ⟨L, rfl, hO1, hl, hLT, hb1⟩
  have hb01 := hwW.trans hb1
  obtain ⟨v, hv, hP⟩ := hO1
  have o0 : w1.cell? ⟨w.heap.size, 0, none⟩ = some v := by rw [cell_of_row w1 _ _ _ _ _ hv]; rfl
  have hPl := rls_of_owns hP (by omega)
  obtain ⟨va, vc, rfl⟩ := rls_shape hPl
  obtain ⟨T1, T2, ok⟩ := T
  cases ok
  · have hr := Lib.hid (show R = ([], (T2 : Int), 9) from HR.out)
    clear HR C1 hv hP hPl hLT o0
    go_wp2_with fail
    go_ret3
    exact ⟨.slice none 0 0, by rw [hr.out]; rfl, by rw [hr.out]; exact rls_nilT _ _, hb01⟩
  · obtain ⟨rfl, hsm⟩ := hLT rfl
    have HR' := Lib.hid (show R = if chkRl L = 0 then (L, 0, 0) else ([], 0, chkRl L) from HR.out)
    have C2 := Lib.hid (rulesFault_calls _ _ L w1 hPl hsm (by omega))
    have HPl := Lib.hid hPl
    have Hv := Lib.hid hv
    generalize chkRl L = X at C2 HR'
    clear HR C1 hv hP hPl hsm hLT
    go_wp2_with fail
    refine C2.out.mono ?_
    rintro e w2 ⟨rfl, hb2⟩
    have o2 := below_cell hb2 o0
    have hb02 := below_step hb01 hb2
    have HP2 := Lib.hid ((rls_monoT HPl.out (by omega : w.heap.size ≤ _)).below hb2)
    clear C2 hb2 o0 HPl Hv
    by_cases hz : X = 0
    · have e1 : (X != 0) = false := by simp [hz]
      have hr := Lib.hid (show R = (L, 0, 0) by rw [HR'.out, if_pos hz])
      clear hz
      go_wp2_with fail
      go_ret3
      exact ⟨_, by rw [hr.out]; rfl, by rw [hr.out]; exact HP2.out, hb02⟩
    · have e1 : (X != 0) = true := by simp [hz]
      have hr := Lib.hid (show R = ([], 0, X) by rw [HR'.out, if_neg hz])
      clear hz
      go_wp2_with fail
      go_ret3
      exact ⟨.slice none 0 0, by rw [hr.out]; rfl, by rw [hr.out]; exact rls_nilT _ _, hb02⟩

theorem run_neqRl (a : RD) (w : World) : (binOp .neq 40 (rlV a) (rlV a)).run Tryz.prog w = .ok (.bool false) w := by
  have u2 := Tryz.underlying9
  have hS : Tryz.prog.underlying 40 = some (.struct (Tryz.prog.fieldsOf 40)) := by kernel_rfl
  have hp : Tryz.prog.stoodInHeld 40 = false := by kernel_rfl
  unfold rlV
  rw [run_neq_struct, show (10000 : Nat) = 9999 + 1 from rfl, run_equalIn_agg w 9999 40 _ _ hS hp]
  simp only [Program.fieldsOf, Tryz.underlying40]
  go_simp
theorem eqGuardRl (x y : Operand) (xs ys : Array Value) (w : World) : (eqGuard .neq 40 x y (.agg xs) (.agg ys)).run Tryz.prog w = .ok () w := run_eqGuard_agg w .neq 40 x y xs ys (by kernel_rfl)
theorem below_drewNr {w w' : World} (h : Below w.heap.size w w') (n : Nat) : Below w.heap.size w (w'.drewN n) := ⟨h.os, h.tape, h.output, h.size, h.block⟩
set_option maxRecDepth 100000 in
set_option maxHeartbeats 4000000 in
theorem equalRl_calls (lo lo' : Nat) (v v' : Value) (xs : List RD) (w : World) (hv : Rls w lo v xs) (hv' : Rls w lo' v' xs) (ha : xs.length ≤ 1000000) :
    Calls Tryz.prog 11 #[v, v'] w (BoolIs true w) := by
  obtain ⟨xa, xc, rfl⟩ := rls_shape hv
  obtain ⟨ya, yc, rfl⟩ := rls_shape hv'
  have Hc : Hid (∀ (i : Nat) (a : RD), xs[i]? = some a → ∃ g off g' off', xa = some ⟨g, off, none⟩ ∧ ya = some ⟨g', off', none⟩ ∧
      (w.cell? ⟨g, off + i * 7, none⟩ = some (.string a.key) ∧ w.cell? ⟨g, off + i * 7 + 1, none⟩ = some (.string a.stat) ∧ w.cell? ⟨g, off + i * 7 + 2, none⟩ = some (.string a.pos) ∧ w.cell? ⟨g, off + i * 7 + 3, none⟩ = some (.int .i64 a.kind) ∧ w.cell? ⟨g, off + i * 7 + 4, none⟩ = some (.int .i64 a.many) ∧ w.cell? ⟨g, off + i * 7 + 5, none⟩ = some (.int .i64 a.num) ∧ w.cell? ⟨g, off + i * 7 + 6, none⟩ = some (.int .i64 a.den)) ∧
      (w.cell? ⟨g', off' + i * 7, none⟩ = some (.string a.key) ∧ w.cell? ⟨g', off' + i * 7 + 1, none⟩ = some (.string a.stat) ∧ w.cell? ⟨g', off' + i * 7 + 2, none⟩ = some (.string a.pos) ∧ w.cell? ⟨g', off' + i * 7 + 3, none⟩ = some (.int .i64 a.kind) ∧ w.cell? ⟨g', off' + i * 7 + 4, none⟩ = some (.int .i64 a.many) ∧ w.cell? ⟨g', off' + i * 7 + 5, none⟩ = some (.int .i64 a.num) ∧ w.cell? ⟨g', off' + i * 7 + 6, none⟩ = some (.int .i64 a.den))) := Lib.hid fun i a h1 => by
    rcases rls_at hv with ⟨_, rfl⟩ | ⟨g, off, cap, e1, _, _, _, hc⟩
    · simp at h1
    · rcases rls_at hv' with ⟨_, rfl⟩ | ⟨g', off', cap', e2, _, _, _, hc'⟩
      · simp at h1
      · simp only [Value.slice.injEq] at e1 e2
        exact ⟨g, off, g', off', e1.1, e2.1, hc i a h1, hc' i a h1⟩
  obtain ⟨n, hn⟩ : ∃ n, xs.length = n := ⟨_, rfl⟩
  have HN := Lib.hid hn
  rw [hn]
  rw [hn] at ha
  clear hv hv' hn
  have e1 : ((n : Int) != (n : Int)) = false := by simp
  go_enter Tryz.func11, Tryz.ntmps11
  go_wp2_with fail
  go_loopw [13] (fun i wr => ∃ k : Nat, k ≤ n ∧ i = .int .i64 k ∧ Below w.heap.size w wr) (fun i _ => n - (intOf i).toNat)
  case atStart => exact ⟨0, Nat.zero_le _, rfl, Below.refl _ _⟩
  case round =>
    obtain ⟨k, hk, rfl, hb⟩ := hrel
    by_cases hlt : k < n
    · obtain ⟨a, hai⟩ : ∃ a, xs[k]? = some a := ⟨_, List.getElem?_eq_getElem (show k < xs.length by have := HN.out; omega)⟩
      obtain ⟨g, off, g', off', rfl, rfl, ⟨p0, p1, p2, p3, p4, p5, p6⟩, q0, q1, q2, q3, q4, q5, q6⟩ := Hc.out k a hai
      have a0 := below_cell hb p0
      have a1 := below_cell hb p1
      have a2 := below_cell hb p2
      have a3 := below_cell hb p3
      have a4 := below_cell hb p4
      have a5 := below_cell hb p5
      have a6 := below_cell hb p6
      have b0 := below_cell hb q0
      have b1 := below_cell hb q1
      have b2 := below_cell hb q2
      have b3 := below_cell hb q3
      have b4 := below_cell hb q4
      have b5 := below_cell hb q5
      have b6 := below_cell hb q6
      have w3 : (k : Int) < (n : Int) := by omega
      have hne := run_neqRl a
      have hgd := eqGuardRl
      unfold rlV at hne
      clear hai p0 p1 p2 p3 p4 p5 p6 q0 q1 q2 q3 q4 q5 q6
      go_wp2_with fail
      go_quiet (fail)
      go_wp2_with fail
      go_roundw
      case rel => exact ⟨k + 1, by omega, by go_num, below_drewNr hb _⟩
      case measure => simp [intOf]; omega
    · obtain rfl : k = n := by omega
      go_wp2_with fail
      go_ret
      exact ⟨rfl, hb⟩

def mtS : ByteArray := ⟨#[]⟩
theorem readGo_len : ∀ (f : Nat) (s : ByteArray) (L : List RD) (n : Nat), (readGo f s L n).1.length ≤ L.length + f := by
  intro f
  induction f with
  | zero => intro s L n; exact Nat.le_refl _
  | succ f ih =>
    intro s L n
    unfold readGo
    split
    · show L.length ≤ _; omega
    · split
      · have := ih (cutL s).2.1 (L ++ [ruleL (cutL s).1]) (n + 1)
        simp only [List.length_append, List.length_cons, List.length_nil] at this
        omega
      · simp
theorem readR_len (u : ByteArray) : (readR u).1.length ≤ u.size := by
  have h := readGo_len u.size u [] 0
  simp only [List.length_nil, Nat.zero_add] at h
  unfold readR
  simp only
  split
  · split
    · exact h
    · exact Nat.zero_le _
  · exact Nat.zero_le _
set_option maxRecDepth 100000 in
set_option maxHeartbeats 16000000 in
theorem texts_law (lv : Value) (w : World) (hl : Tape w lv) (hG : GlobT w) : Calls Tryz.prog 3 #[lv] w (BoolIs true w) := by
  have hs1 := hl.stm 25
  obtain ⟨la, ln, lc, rfl⟩ := hl.shape
  have HG := Lib.hid hG
  clear hl hG
  go_enter Tryz.func3, Tryz.ntmps3
  go_wp2_with fail
  refine (rules_calls w.heap.size 0 _ hs1 (by omega)).mono ?_
  rintro e w2 ⟨vr, ⟨rs, hR, hrl, hrs⟩, rfl, hs2, hg2⟩
  have hb2 : Below w.heap.size w w2 := (below_alloc w _).grown hg2 (by simp) (fun r hr => by cases hr; exact Nat.le_refl _)
  have Hrs := Lib.hid hrs
  obtain ⟨ra, rc, rfl⟩ := rls_shape hR
  have hlo1 : w.heap.size < (w.alloc (.cells #[.slice la ln lc, .int .i64 0] 25)).heap.size := by simp
  clear hs1 hg2 hrs
  generalize (w.alloc (.cells #[.slice la ln lc, .int .i64 0] 25)).heap.size = lo1 at hR hlo1
  go_wp2_with fail
  refine (ruleText_calls w.heap.size _ w2 hs2 (by omega) (fun w' hg => HG.out.dig.below (hb2.grown hg hb2.size (fun r hr => by cases hr; exact Nat.le_refl _)))).mono ?_
  rintro e w4 ⟨v, ⟨u, rfl, hu⟩, rfl, hs4, hg4⟩
  have hb4 := hb2.grown hg4 hb2.size (fun r hr => by cases hr; exact Nat.le_refl _)
  have hR4 := hR.other hg4 hlo1
  have HF := Lib.hid (show ∀ w', Below w4.heap.size w4 w' → Rls w' lo1 (.slice ra rs.length rc) rs ∧ GlobT w' from fun w' hb => ⟨hR4.below hb, (HG.out.below hb4).below hb⟩)
  have HB4 := Lib.hid hb4
  have T2 := Lib.hid (show chkRl rs = 0 → textRE rs = textRl rs from fun h => by unfold textRE; rw [if_pos h])
  have U2 := Lib.hid (show chkRl rs ≠ 0 → textRE rs = mtS from fun h => by unfold textRE; rw [if_neg h]; rfl)
  have C2 := Lib.hid (fun w' hb => textRl_calls _ _ rs w' (HF.out w' hb).1 Hrs.out (by omega) (HF.out w' hb).2.dig)
  have C3 := Lib.hid (fun w' hb => rulesFault_calls _ _ rs w' (HF.out w' hb).1 Hrs.out (by omega))
  have C6 := Lib.hid (fun (h : chkRl rs = 0) w' hb => ruleLines_calls _ _ rs w' (HF.out w' hb).1 Hrs.out (by omega) (fun r hr => ((rules_ok h).2 r hr).1) (HF.out w' hb).2.dig)
  have C7 := Lib.hid (fun w' hb => read_calls u w' (by omega) (HF.out w' hb).2)
  have C8 := Lib.hid (fun w' hb => rulesRead_calls u w' (by omega) (HF.out w' hb).2)
  have HL := Lib.hid (show (readR u).1.length ≤ 1000000 from Nat.le_trans (readR_len u) (by omega))
  clear hs2 hs4 hg4 hb2 hb4 hR hR4
  generalize chkRl rs = X1 at C2 C3 C6 T2 U2
  generalize textRE rs = S1 at C2 T2 U2
  generalize textRl rs = S2 at C6 T2
  generalize readR u = R2 at C7 C8 HL
  have Hmt := Lib.hid (show mtS = (⟨#[]⟩ : ByteArray) from rfl)
  generalize mtS = mt at U2 Hmt
  have hb5 := Below.refl w4.heap.size w4
  go_wp2_with fail
  refine (C2.out w4 hb5).mono ?_
  rintro e w6 ⟨rfl, hb6⟩
  clear hb5 C2
  go_wp2_with fail
  refine (C3.out w6 hb6).mono ?_
  rintro e w7 ⟨rfl, hb7⟩
  have hb7 := below_step hb6 hb7
  clear hb6 C3
  go_upto_if 31 with fail
  go_cut [9] from 16 to 72 (fun v wd => v = .string S1 ∧ Below w7.heap.size w7 wd)
  case first =>
    by_cases hz2 : X1 = 0
    · have e2 : (X1 == 0) = true := by simp [hz2]
      have HV2 := Lib.hid (T2.out hz2)
      have C6' := Lib.hid (C6.out hz2 w7 hb7)
      clear hz2
      rw [← HV2.out] at C6'
      go_wp2_with fail
      refine C6'.out.mono ?_
      rintro e w11 ⟨rfl, hb11⟩
      go_wp2_with fail
      go_meet
      case rel => exact ⟨rfl, hb11⟩
    · have e2 : (X1 == 0) = false := by simp [hz2]
      have hr2 : S1 = mt := U2.out hz2
      clear hz2
      go_wp2_with fail
      go_meet
      case rel => exact ⟨by rw [hr2, Hmt.out], Below.refl _ _⟩
  case rest =>
    obtain ⟨rfl, hb11⟩ := hcut
    have hb11 := below_step hb7 hb11
    clear hb7 T2 U2 C6
    go_wp2_with fail
    refine (C7.out _ hb11).mono ?_
    rintro e w12 ⟨va, rfl, ha12, hb12⟩
    obtain ⟨aa, ac, rfl⟩ := rls_shape ha12
    have hb12 := below_step hb11 hb12
    clear hb11
    go_wp2_with fail
    refine (C8.out _ hb12).mono ?_
    rintro e w13 ⟨vb, rfl, hc13, hb13⟩
    obtain ⟨ba, bc, rfl⟩ := rls_shape hc13
    have ha13 := ha12.below hb13
    have hb13 := below_step hb12 hb13
    clear hb12 ha12
    go_wp2_with fail
    refine (equalRl_calls _ _ _ _ R2.1 w13 ha13 hc13 HL.out).mono ?_
    rintro e w15 ⟨rfl, hb15⟩
    have hb15 := below_step hb13 hb15
    clear ha13 hc13 hb13
    go_wp2_with fail
    refine (scored_calls w15).mono ?_
    rintro e w16 ⟨rfl, hb16⟩
    go_wp2_with fail
    go_ret
    exact ⟨rfl, below_step HB4.out (below_step hb15 hb16)⟩
end Go.Proofs.YtmejjkicagkogaaGreatDoor
