/- How right rules are drawn. -/
import Derived.Test.YtmejjkicagkogaaGreatDoorSmr
namespace Go.Proofs.YtmejjkicagkogaaGreatDoor
open Go.RowKit

/-- The state of a round: the stream, the rule's own block, the rules so far, the keys. -/
structure RS (w : World) (B X base : Nat) (out : Value) (rs : List RD) (r : RD) (n : Nat) (w' : World) : Prop where
  st : St w' B n
  x : w'.heap[X]? = some (.cells (rlRow r).toArray 40 (0, 0))
  own : w'.ownsRow base 40 7 out rs.length (rs.map rlRow).flatten
  gb : w.grownBy w' (some B)
theorem RS.step {w : World} {B X base : Nat} {out : Value} {rs : List RD} {r : RD} {n m : Nat} {w' w'' : World} (h : RS w B X base out rs r n w') (hs : St w'' B m) (hg : w'.grownBy w'' (some B)) (hX : B < X) (hb : B < base) : RS w B X base out rs r m w'' :=
  ⟨hs, heap_gb h.x hg (by omega), own_keep h.own hg hb, gb_trans h.gb hg⟩
theorem RS.alloc {w : World} {B X base : Nat} {out : Value} {rs : List RD} {r : RD} {n : Nat} {w' : World} (h : RS w B X base out rs r n w') (o : Obj) : RS w B X base out rs r n (w'.alloc o) :=
  ⟨h.st.alloc o, heap_al h.x o, World.ownsRow.alloc h.own o, gb_trans h.gb (gb_alloc w' o _)⟩
theorem RS.mono {w : World} {B X base : Nat} {out : Value} {rs : List RD} {r : RD} {n m : Nat} {w' : World} (h : RS w B X base out rs r n w') (hm : n ≤ m) : RS w B X base out rs r m w' := ⟨h.st.mono hm, h.x, h.own, h.gb⟩
theorem RS.cells {w : World} {B X base : Nat} {out : Value} {rs : List RD} {r : RD} {n : Nat} {w' : World} (h : RS w B X base out rs r n w') :
    w'.cell? ⟨X, 0, none⟩ = some (.string r.key) ∧ w'.cell? ⟨X, 1, none⟩ = some (.string r.stat) ∧ w'.cell? ⟨X, 2, none⟩ = some (.string r.pos) ∧ w'.cell? ⟨X, 3, none⟩ = some (.int .i64 r.kind) ∧ w'.cell? ⟨X, 4, none⟩ = some (.int .i64 r.many) ∧
      w'.cell? ⟨X, 5, none⟩ = some (.int .i64 r.num) ∧ w'.cell? ⟨X, 6, none⟩ = some (.int .i64 r.den) ∧ ∀ o, w'.frozen? ⟨X, o, none⟩ = false :=
  ⟨cell_at h.x 0 rfl, cell_at h.x 1 rfl, cell_at h.x 2 rfl, cell_at h.x 3 rfl, cell_at h.x 4 rfl, cell_at h.x 5 rfl, cell_at h.x 6 rfl, fun o => free_of h.x o⟩
theorem RS.many {w : World} {B X base : Nat} {out : Value} {rs : List RD} {r : RD} {n : Nat} {w' : World} (h : RS w B X base out rs r n w') (hX : B < X) (hb : w.heap.size ≤ X) (ho : out.ownBlock ≠ some X) (m : Int) :
    RS w B X base out rs { r with many := m } n (w'.setCell ⟨X, 4, none⟩ (.int .i64 m)) := by
  have hg := gb_setCell w' X 4 (.int .i64 m)
  refine ⟨h.st.grown hg fun r hr => by cases hr; exact hX, ?_, h.own.kept hg (.inr ho), gb_then h.gb hg fun r hr => by cases hr; exact hb⟩
  simp [World.setCell, Array.getElem?_modify, h.x, rlRow]
def F_ra : ByteArray := ⟨#[114, 97]⟩
def F_rb : ByteArray := ⟨#[114, 98]⟩
def F_rc : ByteArray := ⟨#[114, 99]⟩
def F_rd : ByteArray := ⟨#[114, 100]⟩
def F_re : ByteArray := ⟨#[114, 101]⟩
def keysO : Obj := .cells #[.string F_ra, .string F_rb, .string F_rc, .string F_rd, .string F_re] 9 (0, 0)
/-- Rules that the call owns. -/
def OwnRs (lo : Nat) (w : World) (v : Value) : Prop := ∃ rs : List RD, w.ownsRow lo 40 7 v rs.length (rs.map rlRow).flatten ∧ rs.length ≤ 5 ∧ ∀ r ∈ rs, SmallR r
set_option maxRecDepth 100000 in
set_option maxHeartbeats 4000000 in
theorem rightRules_calls (B N : Nat) (w : World) (hs : St w B N) (hN : N ≤ 3980000) :
    Calls Tryz.prog 13 #[.pointer (some ⟨B, 0, none⟩)] w (Made B (N + 40) (OwnRs w.heap.size) w) := by
  obtain ⟨i0, hi, hz0, hz1, hz2⟩ := info_parts info_rl
  have hBw := hs.lt
  go_enter Tryz.func13, Tryz.ntmps13
  go_wp2_with fail
  go_loopw [3, 9] (fun out i wr => ∃ (j : Nat) (rs : List RD), j ≤ 5 ∧ i = .int .i64 j ∧ rs.length ≤ j ∧ Hid (∀ r ∈ rs, SmallR r) ∧ wr.ownsRow (w.heap.size + 1) 40 7 out rs.length (rs.map rlRow).flatten ∧ St wr B (N + 6 * j) ∧ w.grownBy wr (some B) ∧ wr.heap[w.heap.size]? = some keysO) (fun _ i _ => 5 - (intOf i).toNat)
  case atStart =>
    exact ⟨0, [], by omega, rfl, by simp, Lib.hid (by simp), World.ownsRow_nil _ _ _ _, hs.alloc _, gb_alloc w _ _, heap_alloc_new w _⟩
  case round =>
    obtain ⟨j, rs, hj, rfl, hkl, Hrs, hown, hsr, hg, hk⟩ := hrel
    by_cases hlt : j < 5
    · have hcell : ∃ k, k.size ≤ 1000 ∧ wr.cell? ⟨w.heap.size, j, none⟩ = some (.string k) := by
        rw [cell_of_row wr _ _ _ _ _ hk]
        match j, hlt with
        | 0, _ => exact ⟨F_ra, by decide, rfl⟩
        | 1, _ => exact ⟨F_rb, by decide, rfl⟩
        | 2, _ => exact ⟨F_rc, by decide, rfl⟩
        | 3, _ => exact ⟨F_rd, by decide, rfl⟩
        | 4, _ => exact ⟨F_re, by decide, rfl⟩
      obtain ⟨k, hkm, hcell⟩ := hcell
      have Hkm := Lib.hid hkm
      clear hkm
      have hlk := lt_of_heap hk
      go_wp2_with fail
      refine (flip_calls B _ 4 wr hsr (by omega) (by omega) (by omega)).mono ?_
      rintro e w1 ⟨v, ⟨b, rfl⟩, rfl, hs1, hg1⟩
      have hown1 := own_keep hown hg1 (by omega)
      have hk1 := heap_gb hk hg1 (by omega)
      have hg01 := gb_trans hg hg1
      clear hown hsr hg1 hcell hk
      cases b
      · go_wp2_with fail
        refine (some_calls B _ w1.heap.size _ [E_goal, E_pass, E_save, E_yard] _ (hs1.alloc _) (by omega) (strs_new w1 [E_goal, E_pass, E_save, E_yard] (by decide)) hs1.lt (by simp)).mono ?_
        rintro e w2 ⟨v, ⟨st, rfl, hst⟩, rfl, hs2, hg2⟩
        have Hst := Lib.hid (small_of' (by decide) hst)
        have hown2 := own_keep (World.ownsRow.alloc hown1 (.cells ([E_goal, E_pass, E_save, E_yard].map Value.string).toArray 9)) hg2 (by omega)
        have hk2 := heap_gb (heap_al hk1 (.cells ([E_goal, E_pass, E_save, E_yard].map Value.string).toArray 9)) hg2 (by omega)
        have hg02 : w.grownBy w2 (some B) := gb_trans hg01 (gb_trans (gb_alloc w1 _ _) hg2)
        clear hst hown1 hg2 hs1 hg01 hk1
        go_wp2_with fail
        refine (some_calls B _ w2.heap.size _ [E_none, E_none, S_gk, S_df] _ (hs2.alloc _) (by omega) (strs_new w2 [E_none, E_none, S_gk, S_df] (by decide)) hs2.lt (by simp)).mono ?_
        rintro e w3 ⟨v, ⟨ps, rfl, hps⟩, rfl, hs3, hg3⟩
        have Hps := Lib.hid (small_of' (by decide) hps)
        have hown3 := own_keep (World.ownsRow.alloc hown2 (.cells ([E_none, E_none, S_gk, S_df].map Value.string).toArray 9)) hg3 (by omega)
        have hk3 := heap_gb (heap_al hk2 (.cells ([E_none, E_none, S_gk, S_df].map Value.string).toArray 9)) hg3 (by omega)
        have hg03 : w.grownBy w3 (some B) := gb_trans hg02 (gb_trans (gb_alloc w2 _ _) hg3)
        clear hps hown2 hg3 hs2 hg02 hk2
        go_wp2_with fail
        refine (range_calls B _ 1 4 w3 hs3 (by omega) (by omega) (by omega) (by omega)).mono ?_
        rintro e w4 ⟨v, ⟨kd, rfl, hkd1, hkd4⟩, rfl, hs4, hg4⟩
        have hown4 := own_keep hown3 hg4 (by omega)
        have hk4 := heap_gb hk3 hg4 (by omega)
        have hg04 : w.grownBy w4 (some B) := gb_trans hg03 hg4
        clear hown3 hg4 hs3 hg03 hk3
        go_wp2_with fail
        refine (pick_calls B _ w4.heap.size _ [100, 400, 4, 50, -200, 7] _ (hs4.alloc _) (by omega) (ints_new w4 [100, 400, 4, 50, -200, 7] (by decide)) hs4.lt (by simp)).mono ?_
        rintro e w5 ⟨v, ⟨c, rfl, hc⟩, rfl, hs5, hg5⟩
        have hcI : Int64 c := by
          simp only [List.mem_cons, List.not_mem_nil, or_false] at hc
          unfold Int64; omega
        have hown5 := own_keep (World.ownsRow.alloc hown4 (.cells ([100, 400, 4, 50, -200, 7].map (Value.int .i64)).toArray 3)) hg5 (by omega)
        have hk5 := heap_gb (heap_al hk4 (.cells ([100, 400, 4, 50, -200, 7].map (Value.int .i64)).toArray 3)) hg5 (by omega)
        have hg05 : w.grownBy w5 (some B) := gb_trans hg04 (gb_trans (gb_alloc w4 _ _) hg5)
        clear hc hown4 hg5 hs4 hg04 hk4
        go_wp2_with fail
        refine (ofHundredthsR_calls c w5 hcI).mono ?_
        rintro e w6 ⟨rfl, hb6⟩
        have hs6 := hs5.below hb6
        have hown6 := hown5.kept (gb_below hb6 none) (by cases hv : u3.ownBlock <;> simp)
        have hk6 := cells_later hk5 hb6
        have hg06 := gb_trans hg05 (gb_below hb6 (some B))
        have hfr : ∃ nu de : Int, frV (lowF c 100) = .agg #[.int .i64 nu, .int .i64 de] ∧ Int64 nu ∧ Int64 de :=
          ⟨_, _, rfl, tdiv_64 hcI (gcdI_pos (by omega)), tdiv_64 (show Int64 100 by unfold Int64; omega) (gcdI_pos (by omega))⟩
        obtain ⟨nu, de, hfr, hnu, hde⟩ := hfr
        rw [hfr]
        have Hnu := Lib.hid hnu
        have Hde := Lib.hid hde
        have hlk6 := lt_of_heap hk6
        clear hs5 hown5 hk5 hg05 hb6 hcI hfr hnu hde
        obtain ⟨X, hX⟩ : ∃ X, X = w6.heap.size := ⟨_, rfl⟩
        have hS : RS w B X (w.heap.size + 1) u3 rs ⟨k, st, ps, kd, 0, nu, de⟩ (N + 6 * j + 5) (w6.alloc (.cells #[.string k, .string st, .string ps, .int .i64 kd, .int .i64 0, .int .i64 nu, .int .i64 de] 40)) :=
          ⟨(hs6.alloc _).mono (by omega), by rw [hX]; exact heap_alloc_new w6 _, World.ownsRow.alloc hown6 _, gb_trans hg06 (gb_alloc w6 _ _)⟩
        have hkS := heap_al hk6 (.cells #[.string k, .string st, .string ps, .int .i64 kd, .int .i64 0, .int .i64 nu, .int .i64 de] 40)
        have hoX : u3.ownBlock ≠ some X := by
          intro e
          obtain ⟨_, cur', h⟩ := own_block hown6 X e
          have := lt_of_heap h
          omega
        have hXw : w.heap.size + 1 ≤ X := by omega
        clear hs6 hown6 hg06 hk6
        go_upto_region 7 with fail
        obtain ⟨wA, hwA⟩ : ∃ wA, wA = w6.alloc (.cells #[.string k, .string st, .string ps, .int .i64 kd, .int .i64 0, .int .i64 nu, .int .i64 de] 40) := ⟨_, rfl⟩
        rw [← hwA] at hS hkS ⊢
        rw [← hX]
        clear hX hwA hlk6
        have hsR : SmallR ⟨k, st, ps, kd, 0, nu, de⟩ := ⟨Hkm.out, Hst.out, Hps.out, by unfold Int64; show -9223372036854775808 ≤ kd ∧ kd ≤ 9223372036854775807; omega, by unfold Int64; show -9223372036854775808 ≤ (0 : Int) ∧ (0 : Int) ≤ 9223372036854775807; omega, Hnu.out, Hde.out⟩
        have HsR := Lib.hid hsR
        clear hsR Hkm Hst Hps Hnu Hde
        go_cut [36] from 10 to 45 (fun v wc => ∃ b : Bool, v = .bool b ∧ wA = wc)
        case first =>
          obtain ⟨c0, c1, c2, c3, c4, c5, c6, cf⟩ := hS.cells
          dsimp only at c3
          by_cases h2 : kd = 2
          · have e1 : (kd == 2) = true := by simp [h2]
            clear h2 hS
            go_wp2_with fail
            go_meet
            case rel => exact ⟨_, rfl, rfl⟩
          · have e1 : (kd == 2) = false := by simp [h2]
            clear h2 hS
            go_wp2_with fail
            go_meet
            case rel => exact ⟨_, rfl, rfl⟩
        case rest =>
          obtain ⟨b, rfl, rfl⟩ := hcut
          go_upto_if 36 with fail
          go_cut [36] from 10 to 45 (fun _ wc => ∃ r : RD, Hid (SmallR r) ∧ RS w B X (w.heap.size + 1) u3 rs r (N + 6 * j + 6) wc ∧ wc.heap[w.heap.size]? = some keysO)
          case first =>
            cases b
            · go_wp2_with fail
              go_meet
              case rel => exact ⟨_, HsR, hS.mono (by omega), hkS⟩
            · go_wp2_with fail
              refine (pick_calls B _ wA.heap.size _ [1, 2, 3, 7, 100] _ (hS.st.alloc _) (by omega) (ints_new wA [1, 2, 3, 7, 100] (by decide)) hS.st.lt (by simp)).mono ?_
              rintro e w7 ⟨v, ⟨m, rfl, hm⟩, rfl, hs7, hg7⟩
              have hmI : Int64 m := by
                simp only [List.mem_cons, List.not_mem_nil, or_false] at hm
                unfold Int64; omega
              have HmR := Lib.hid (show SmallR ⟨k, st, ps, kd, m, nu, de⟩ from ⟨HsR.out.1, HsR.out.2.1, HsR.out.2.2.1, HsR.out.2.2.2.1, hmI, HsR.out.2.2.2.2.2⟩)
              have hS7 := (hS.alloc (.cells ([1, 2, 3, 7, 100].map (Value.int .i64)).toArray 3)).step hs7 hg7 (by omega) (by omega)
              have hk7 := heap_gb (heap_al hkS (.cells ([1, 2, 3, 7, 100].map (Value.int .i64)).toArray 3)) hg7 (by omega)
              obtain ⟨c0, c1, c2, c3, c4, c5, c6, cf⟩ := hS7.cells
              dsimp only at c4
              have hSm := hS7.many (by omega) (by omega) hoX m
              have hkm := heap_far (X := w.heap.size) (Y := X) (o := 4) (u := .int .i64 m) hk7 (by omega)
              clear hm hmI hg7 hs7 hS hkS c0 c1 c2 c3 c5 c6 hS7 hk7
              go_wp2_with fail
              go_meet
              case rel => exact ⟨_, HmR, hSm.mono (by omega), hkm⟩
          case rest =>
            obtain ⟨r, Hr, hSc, hkc⟩ := hcut
            obtain ⟨c0, c1, c2, c3, c4, c5, c6, cf⟩ := hSc.cells
            have hownc := hSc.own
            have hlkc := lt_of_heap hkc
            clear hS hkS HsR
            go_wp2_with (at_builtin; refine wpList_append_own _ rfl _ _ 26 rfl (w.heap.size + 1) 40 i0 (.agg #[.string ⟨#[]⟩, .string ⟨#[]⟩, .string ⟨#[]⟩, .int .i64 0, .int .i64 0, .int .i64 0, .int .i64 0]) 7 80 Tryz.underlying26 hi hz0 hz1 hz2 rfl (by decide) _ _ _ rfl (hownc.alloc _) ⟨_, 0, none⟩ 1 1 (rlRow r) rfl rfl ?c1 ?c2 ?c3 ?c4 ?c5 ?_)
            case c1 => exact cells_new _ _ _
            case c2 => simp [rlRow, Value.oneCell']
            case c3 => unfold maxLen; omega
            case c4 => omega
            case c5 => simp; omega
            intro v' w8 hown8 hgrow _
            go_wp2_with fail
            go_roundw
            case rel =>
              refine ⟨j + 1, rs ++ [r], by omega, by go_num, by simp; omega, Lib.hid fun x hx => ?_, by rw [flat_snoc]; simpa using hown8, ((hSc.st.alloc _).grown hgrow fun r hr => ?_).mono (by omega), gb_then (gb_trans hSc.gb (gb_alloc _ _ _)) hgrow fun r hr => ?_, (hgrow.block _ (by simp; omega) fun e => ?_).trans ((heap_alloc_old _ _ hlkc).trans hkc)⟩
              · rcases List.mem_append.1 hx with h | h
                · exact Hrs.out x h
                · obtain rfl := List.mem_singleton.1 h; exact Hr.out
              · have := (own_block hownc r hr).1; omega
              · have := (own_block hownc r hr).1; omega
              · have := (own_block hownc _ e.symm).1; omega
            case measure => simp [intOf]; omega
      · go_wp2_with fail
        go_roundw
        case rel => exact ⟨j + 1, rs, by omega, by go_num, by omega, Hrs, hown1, hs1.mono (by omega), hg01, hk1⟩
        case measure => simp [intOf]; omega
    · obtain rfl : j = 5 := by omega
      clear hk
      go_wp2_with fail
      go_ret
      exact ⟨_, ⟨rs, hown.mono (by omega), by omega, Hrs.out⟩, rfl, hsr.mono (by omega), hg⟩
end Go.Proofs.YtmejjkicagkogaaGreatDoor
