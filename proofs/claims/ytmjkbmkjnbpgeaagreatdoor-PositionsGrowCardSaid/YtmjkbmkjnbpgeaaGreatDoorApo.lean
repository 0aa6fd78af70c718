/- GrownOf: the reference counts the appearances of each player at each position. -/
import Derived.Test.YtmjkbmkjnbpgeaaGreatDoorApn
import Derived.Test.YtmjkbmkjnbpgeaaGreatDoorBb
import Derived.Test.YtmjkbmkjnbpgeaaGreatDoorFc
namespace Go.Proofs.YtmjkbmkjnbpgeaaGreatDoor
open Go.RowKit

/-- The positions that the first m appearances add. -/
def addsN (who : ByteArray) (ss : List SD) (least week : Int) (m : Nat) : List ByteArray := ((ss.take m).filter fun y => decide (least ≤ (ss.countP (cntB who y.club week) : Int))).map SD.club
theorem addsN_all (who : ByteArray) (ss : List SD) (least week : Int) : addsN who ss least week ss.length = addsL who ss least week := by
  unfold addsN addsL; rw [List.take_length]
theorem addsN_succ (who : ByteArray) {ss : List SD} (least week : Int) {m : Nat} {y : SD} (h : ss[m]? = some y) : addsN who ss least week (m + 1) = addsN who ss least week m ++ (if decide (least ≤ (ss.countP (cntB who y.club week) : Int)) then [y.club] else []) := by
  unfold addsN
  rw [filter_snocS _ h, List.map_append]
  split <;> rfl
theorem addsN_le (who : ByteArray) (ss : List SD) (least week : Int) (m : Nat) : (addsN who ss least week m).length ≤ ss.length := by
  unfold addsN
  rw [List.length_map]
  exact Nat.le_trans (List.length_filter_le _ _) (List.length_take_le' _ _)
theorem countP_snoc {α : Type} (p : α → Bool) {l : List α} {k : Nat} {x : α} (h : l[k]? = some x) : (l.take (k + 1)).countP p = (l.take k).countP p + if p x then 1 else 0 := by
  rw [List.take_add_one, h, List.countP_append]
  simp [List.countP_cons]
theorem refGr_full {ps : List PD} {ss : List SD} {least week : Int} {k : Nat} {p : PD} (h : ps[k]? = some p) (ho : overB (grownP ss least week p) = true) : refGr ps ss least week = ([], 12) := by
  unfold refGr
  rw [if_pos]
  exact List.any_eq_true.2 ⟨_, List.mem_map.2 ⟨p, List.mem_of_getElem? h, rfl⟩, ho⟩
theorem refGr_ok {ps : List PD} {ss : List SD} {least week : Int} (h : ∀ q p, q < ps.length → ps[q]? = some p → overB (grownP ss least week p) = false) : refGr ps ss least week = (ps.map (grownP ss least week), 0) := by
  unfold refGr
  rw [if_neg]
  intro h'
  obtain ⟨x, hx, ho⟩ := List.any_eq_true.1 h'
  obtain ⟨p, hp, rfl⟩ := List.mem_map.1 hx
  obtain ⟨q, hq⟩ := List.getElem?_of_mem hp
  rw [h q p (List.getElem?_eq_some_iff.1 hq).1 hq] at ho
  cases ho
theorem take_map_snoc {α β : Type} (f : α → β) {l : List α} {k : Nat} {x : α} (h : l[k]? = some x) : (l.take (k + 1)).map f = (l.take k).map f ++ [f x] := by
  rw [List.take_add_one, h, List.map_append]; rfl
set_option maxRecDepth 100000 in
set_option maxHeartbeats 8000000 in
theorem grownOf_calls (lo lo' : Nat) (pv v : Value) (ps : List PD) (ss : List SD) (least week : Int) (w : World) (hp : Plays w lo' pv ps) (hS : Aps w lo v ss) (hsn : ss.length ≤ 100) (hpos : ∀ p ∈ ps, p.pos.length ≤ 1000) :
    Calls Tryz.prog 52 #[pv, v, .int .i64 least, .int .i64 week] w (MadePE (refGr ps ss least week) w) := by
  obtain ⟨i0, hi, hz0, hz1, hz2⟩ := info_parts info_str
  obtain ⟨j0, hj, hy0, hy1, hy2⟩ := info_parts info_pl
  have HS := Lib.hid hS
  obtain ⟨sa, sc, rfl⟩ := aps_shape hS
  have Hpos := Lib.hid hpos
  clear hS hpos
  rcases plays_at hp with ⟨rfl, rfl⟩ | ⟨gg, off, cap, rfl, hlo, hg, hnn, hcell⟩
  · clear hp hi hz0 hz1 hz2 hj hy0 hy1 hy2
    have hr : refGr [] ss least week = ([], 0) := rfl
    rw [hr]
    go_enter Tryz.func52, Tryz.ntmps52
    go_wp2_with fail
    refine wp_loop_rounds 1 ?_
    rw [rounds_succ]
    go_wp2_with fail
    go_ret2
    exact ⟨_, rfl, plays_nil _ _, Below.refl _ _⟩
  · have Hc := Lib.hid hcell
    have HG := Lib.hid (fun k p h ho => refGr_full (ps := ps) (ss := ss) (least := least) (week := week) (k := k) (p := p) h ho)
    have HK := Lib.hid (fun h => refGr_ok (ps := ps) (ss := ss) (least := least) (week := week) h)
    generalize refGr ps ss least week = R at HG HK ⊢
    clear hp hcell
    go_enter Tryz.func52, Tryz.ntmps52
    go_wp2_with fail
    go_loopw [10, 21] (fun out i wr => ∃ k : Nat, k ≤ ps.length ∧ i = .int .i64 k ∧ Hid (OwnPs wr w.heap.size out ((ps.take k).map (grownP ss least week))) ∧ Hid (∀ q p, q < k → ps[q]? = some p → overB (grownP ss least week p) = false) ∧ Below w.heap.size w wr) (fun _ i _ => ps.length - (intOf i).toNat)
    case atStart => exact ⟨0, Nat.zero_le _, rfl, Lib.hid ⟨[], rfl, World.ownsRow_nil _ _ _ _, by simp⟩, Lib.hid (fun q p h => by omega), Below.refl _ _⟩
    case round =>
      obtain ⟨k, hk, rfl, HO, Hno, hb⟩ := hrel
      have hwr := hb.size
      by_cases hlt : k < ps.length
      · obtain ⟨p, hpk⟩ : ∃ p, ps[k]? = some p := ⟨ps[k], List.getElem?_eq_getElem hlt⟩
        obtain ⟨x, h0, h1, h2, h3⟩ := Hc.out k p hpk
        have g0 := below_cell hb h0
        have g1 := below_cell hb h1
        have g2 := below_cell hb h2
        obtain ⟨qa, qc, rfl⟩ := strs_shape h3
        have h3r := h3.below hb
        have hpl := Hpos.out p (List.mem_of_getElem? hpk)
        obtain ⟨X, hX⟩ : ∃ X, X = wr.heap.size := ⟨_, rfl⟩
        obtain ⟨W1, hW1⟩ : ∃ W1, W1 = wr.alloc (.cells #[.string p.key, .string p.name, .slice qa p.pos.length qc] 86) := ⟨_, rfl⟩
        have hb1 : Below X wr W1 := by rw [hW1, hX]; exact below_alloc wr _
        have hx1 : W1.heap[X]? = some (.cells #[.string p.key, .string p.name, .slice qa p.pos.length qc] 86 (0, 0)) := by rw [hW1, hX]; exact heap_alloc_new wr _
        have hs1 : W1.heap.size = X + 1 := by rw [hW1, hX]; simp
        have hwX : w.heap.size ≤ X := by omega
        have HBw := Lib.hid (show ∀ W', Below X wr W' → Below w.heap.size w W' from fun W' h => hb.trans (h.mono hwX))
        have HOw := Lib.hid (show ∀ W', Below X wr W' → OwnPs W' w.heap.size u10 ((ps.take k).map (grownP ss least week)) from fun W' h => HO.out.below (by rw [← hX]; exact h))
        have HS1 := Lib.hid (((HS.out.below hb)).below (by rw [← hX]; exact hb1))
        have C1 := Lib.hid (clone_calls lo' _ p.pos W1 (h3r.below (by rw [← hX]; exact hb1)))
        have c2 : W1.cell? ⟨X, 2, none⟩ = some (.slice qa p.pos.length qc) := by rw [cell_of_row W1 _ _ _ _ _ hx1]; rfl
        have HP := Lib.hid hpk
        have Hx1 := Lib.hid hx1
        have HB1 := Lib.hid hb1
        have HXr := Lib.hid hX
        have HW1 := Lib.hid hW1
        have Hsn := Lib.hid (take_map_snoc (grownP ss least week) hpk)
        clear hpk h0 h1 h2 h3 h3r hW1 hx1 hb1 hb hX
        go_upto_region 5 with fail
        rw [← HW1.out, ← HXr.out]
        clear HW1 HXr HO
        go_wp2_with fail
        refine C1.out.mono ?_
        rintro e w2 ⟨v2, hv2, rfl, hb2⟩
        obtain ⟨oa, oc, hsh⟩ := owns_shape hv2
        subst hsh
        have Hv2 := Lib.hid (show OwnS w2 W1.heap.size (.slice oa p.pos.length oc) (p.pos ++ addsN p.key ss least week 0) by simpa [addsN] using hv2)
        have Hb2 := Lib.hid hb2
        clear g0 g1 g2 c2 C1 hv2 hb2 hwr
        go_wp2_with fail
        go_loopw [13, 30] (fun all j wq => ∃ m : Nat, m ≤ ss.length ∧ j = .int .i64 m ∧ Hid (OwnS wq W1.heap.size all (p.pos ++ addsN p.key ss least week m)) ∧ Hid (Below W1.heap.size W1 wq)) (fun _ j _ => ss.length - (intOf j).toNat)
        case atStart => exact ⟨0, Nat.zero_le _, rfl, Hv2, Hb2⟩
        case round =>
          obtain ⟨m, hm, rfl, HO2, HBq⟩ := hrel
          clear Hv2 Hb2
          have hqs := HBq.out.size
          have hxq : wr.heap[X]? = some (.cells #[.string p.key, .string p.name, .slice qa p.pos.length qc] 86 (0, 0)) := (HBq.out.block _ (by omega)).trans Hx1.out
          by_cases hml : m < ss.length
          · obtain ⟨y, hy⟩ : ∃ y, ss[m]? = some y := ⟨_, List.getElem?_eq_getElem hml⟩
            have hAq := HS1.out.below HBq.out
            rcases aps_at hAq with ⟨_, rfl⟩ | ⟨ga, oa', ca, e, _, hgal, _, hac⟩
            · simp at hml
            · simp only [Value.slice.injEq, true_and] at e
              obtain ⟨rfl, rfl⟩ := e
              obtain ⟨a0, a1, a2⟩ := hac m y hy
              have Hst := Lib.hid (addsN_succ p.key least week hy)
              obtain ⟨Y, hY⟩ : ∃ Y, Y = wr.heap.size := ⟨_, rfl⟩
              obtain ⟨W3, hW3⟩ : ∃ W3, W3 = wr.alloc (.cells #[.string y.player, .string y.club, .int .i64 y.week] 132) := ⟨_, rfl⟩
              have hb3 : Below wr.heap.size wr W3 := by rw [hW3]; exact below_alloc wr _
              have hy3 : W3.heap[Y]? = some (.cells #[.string y.player, .string y.club, .int .i64 y.week] 132 (0, 0)) := by rw [hW3, hY]; exact heap_alloc_new wr _
              have hx3 : W3.heap[X]? = some (.cells #[.string p.key, .string p.name, .slice qa p.pos.length qc] 86 (0, 0)) := (hb3.block _ (by omega)).trans hxq
              have HYr := Lib.hid hY
              have HW3 := Lib.hid hW3
              have Hy3 := Lib.hid hy3
              have Hx3 := Lib.hid hx3
              have HA3 := Lib.hid (hAq.below hb3)
              have HO3 := Lib.hid (own_below HO2.out hb3)
              have HB3 := Lib.hid (HBq.out.trans (hb3.mono hqs))
              clear hy hAq hac hW3 hb3 hy3 hx3 hxq hY
              go_upto_region 9 with fail
              rw [← HW3.out, ← HYr.out]
              clear HW3 HYr a0 a1 a2 HO2 HBq hqs
              go_wp2_with fail
              go_loopw [16, 36] (fun n j wz => ∃ q : Nat, q ≤ ss.length ∧ j = .int .i64 q ∧ n = .int .i64 (((ss.take q).countP (cntB p.key y.club week) : Nat) : Int) ∧ Below W3.heap.size W3 wz) (fun _ j _ => ss.length - (intOf j).toNat)
              case atStart => exact ⟨0, Nat.zero_le _, rfl, rfl, Below.refl _ _⟩
              case round =>
                obtain ⟨q, hq, rfl, rfl, hbz⟩ := hrel
                have hyz : wr.heap[Y]? = some (.cells #[.string y.player, .string y.club, .int .i64 y.week] 132 (0, 0)) := (hbz.block _ (lt_of_heap Hy3.out)).trans Hy3.out
                have yc : wr.cell? ⟨Y, 1, none⟩ = some (.string y.club) := by rw [cell_of_row wr _ _ _ _ _ hyz]; rfl
                have hYlt := lt_of_heap hyz
                have hXlt : X < wr.heap.size := Nat.lt_of_lt_of_le (lt_of_heap Hx3.out) hbz.size
                clear hyz
                by_cases hql : q < ss.length
                · obtain ⟨z, hz⟩ : ∃ z, ss[q]? = some z := ⟨_, List.getElem?_eq_getElem hql⟩
                  have hAz := HA3.out.below hbz
                  rcases aps_at hAz with ⟨_, rfl⟩ | ⟨gb, ob, cb, e, _, hgbl, _, hbc⟩
                  · simp at hql
                  · simp only [Value.slice.injEq, Option.some.injEq, Addr.mk.injEq, true_and, and_true] at e
                    obtain ⟨⟨rfl, rfl⟩, rfl⟩ := e
                    obtain ⟨b0, b1, b2⟩ := hbc q z hz
                    have xk : wr.cell? ⟨X, 0, none⟩ = some (.string p.key) := by rw [cell_of_row wr _ _ _ _ _ ((hbz.block _ (lt_of_heap Hx3.out)).trans Hx3.out)]; rfl
                    have Hcn := Lib.hid (countP_snoc (cntB p.key y.club week) hz)
                    have hcl := List.countP_le_length (p := cntB p.key y.club week) (l := ss.take q)
                    have hcl2 := List.length_take_le q ss
                    obtain ⟨c, hc⟩ : ∃ c, (ss.take q).countP (cntB p.key y.club week) = c := ⟨_, rfl⟩
                    rw [hc] at Hcn hcl
                    rw [hc]
                    have hc100 : c ≤ 100 := by omega
                    have hbz4 := (Below.trans hbz ((below_alloc wr (.cells #[.string z.player, .string z.club, .int .i64 z.week] 132)).mono hbz.size))
                    clear hz hAz hbc hc hcl hcl2
                    cases e1 : beqS z.player p.key
                    · have e1' : (z.player.toList == p.key.toList) = false := e1
                      have Hn := Lib.hid (show (ss.take (q + 1)).countP (cntB p.key y.club week) = c by rw [Hcn.out]; unfold cntB; rw [e1]; rfl)
                      clear e1
                      go_wp2_with fail
                      go_roundw
                      case rel => exact ⟨q + 1, by omega, by go_num, by rw [Hn.out], hbz4⟩
                      case measure => simp [intOf]; omega
                    · have e1' : (z.player.toList == p.key.toList) = true := e1
                      cases e2 : beqS z.club y.club
                      · have e2' : (z.club.toList == y.club.toList) = false := e2
                        have Hn := Lib.hid (show (ss.take (q + 1)).countP (cntB p.key y.club week) = c by rw [Hcn.out]; unfold cntB; rw [e1, e2]; rfl)
                        clear e1 e2
                        go_wp2_with fail
                        go_roundw
                        case rel => exact ⟨q + 1, by omega, by go_num, by rw [Hn.out], hbz4⟩
                        case measure => simp [intOf]; omega
                      · have e2' : (z.club.toList == y.club.toList) = true := e2
                        by_cases e3 : z.week ≤ week
                        · have Hn := Lib.hid (show (ss.take (q + 1)).countP (cntB p.key y.club week) = c + 1 by rw [Hcn.out]; unfold cntB; rw [e1, e2, decide_eq_true e3]; rfl)
                          clear e1 e2
                          go_wp2_with fail
                          go_roundw
                          case rel => exact ⟨q + 1, by omega, by go_num, by rw [Hn.out]; go_num, hbz4⟩
                          case measure => simp [intOf]; omega
                        · have Hn := Lib.hid (show (ss.take (q + 1)).countP (cntB p.key y.club week) = c by rw [Hcn.out]; unfold cntB; rw [e1, e2, decide_eq_false e3]; rfl)
                          clear e1 e2
                          go_wp2_with fail
                          go_roundw
                          case rel => exact ⟨q + 1, by omega, by go_num, by rw [Hn.out], hbz4⟩
                          case measure => simp [intOf]; omega
                · obtain rfl : q = ss.length := by omega
                  have hT := Lib.hid (List.take_length (l := ss))
                  rw [hT.out]
                  have hOz : OwnS wr W1.heap.size u13 (p.pos ++ addsN p.key ss least week m) := own_below HO3.out hbz
                  have hBz : Below W1.heap.size W1 wr := HB3.out.trans (hbz.mono HB3.out.size)
                  have hln : (p.pos ++ addsN p.key ss least week m).length ≤ 1100 := by have := addsN_le p.key ss least week m; rw [List.length_append]; omega
                  generalize hA : p.pos ++ addsN p.key ss least week m = A at hOz hln
                  have HA := Lib.hid hA
                  generalize ss.countP (cntB p.key y.club week) = n at Hst ⊢
                  clear hA HO3 HA3
                  by_cases hle : least ≤ (n : Int)
                  · have Hs' := Lib.hid (show p.pos ++ addsN p.key ss least week (m + 1) = A ++ [y.club] by rw [Hst.out, if_pos (decide_eq_true hle), ← HA.out, List.append_assoc])
                    go_wp2_with (at_builtin; refine wpList_append_own _ rfl _ _ 35 rfl W1.heap.size 9 i0 (.string ⟨#[]⟩) 1 16 Tryz.underlying35 hi hz0 hz1 hz2 rfl (by decide) _ _ _ rfl (World.ownsRow.alloc hOz _) ⟨wr.heap.size, 0, none⟩ 1 1 [.string y.club] rfl rfl ?c1 ?c2 ?c3 ?c4 ?c5 ?_)
                    case c1 => exact cell_one_new _ _ _
                    case c2 => simp [Value.oneCell']
                    case c3 => unfold maxLen; omega
                    case c4 => omega
                    case c5 => have := hBz.size; simp; omega
                    intro v' w5 hown5 hgrow _
                    have hown5' : OwnS w5 W1.heap.size v' (A ++ [y.club]) := by unfold OwnS; rw [hs1]; simpa using hown5
                    have hB5 : Below W1.heap.size W1 w5 := (hBz.trans ((below_alloc wr _).mono hBz.size)).grown hgrow (by have := hBz.size; simp; omega) fun r hr => (own_block hOz r hr).1
                    clear hown5 hgrow
                    go_wp2_with fail
                    go_roundw
                    case rel => exact ⟨m + 1, by omega, by go_num, Lib.hid (by rw [Hs'.out]; exact hown5'), Lib.hid hB5⟩
                    case measure => simp [intOf]; omega
                  · have Hs' := Lib.hid (show p.pos ++ addsN p.key ss least week (m + 1) = A by rw [Hst.out, if_neg (by simpa using hle), List.append_nil, HA.out])
                    go_wp2_with fail
                    go_roundw
                    case rel => exact ⟨m + 1, by omega, by go_num, Lib.hid (by rw [Hs'.out]; exact hOz), Lib.hid hBz⟩
                    case measure => simp [intOf]; omega
          · obtain rfl : m = ss.length := by omega
            have hOq := HO2.out
            rw [addsN_all] at hOq
            have hln : (p.pos ++ addsL p.key ss least week).length ≤ 1100 := by have := addsN_le p.key ss least week ss.length; rw [addsN_all] at this; rw [List.length_append]; omega
            have Hgp := Lib.hid (show grownP ss least week p = ⟨p.key, p.name, compactL (sortL (p.pos ++ addsL p.key ss least week))⟩ from rfl)
            generalize p.pos ++ addsL p.key ss least week = A at hOq hln Hgp
            clear hxq
            go_wp2_with fail
            refine (sortS_calls W1.heap.size _ A _ hOq (by omega)).mono ?_
            rintro e w4 ⟨rfl, hO4, hg4⟩
            have hB4 : Below W1.heap.size W1 w4 := HBq.out.grown hg4 hqs fun r hr => (own_block hOq r hr).1
            clear hg4 hOq HO2 HBq hqs
            go_wp2_with fail
            refine (compactS_calls W1.heap.size _ (sortL A) w4 hO4 (by rw [sortL_length]; omega)).mono ?_
            rintro e w5 ⟨v5, rfl, hO5, hg5, -⟩
            have hB5 : Below W1.heap.size W1 w5 := hB4.grown hg5 hB4.size fun r hr => (own_block hO4 r hr).1
            have hcl : (compactL (sortL A)).length ≤ 1100 := by have := compactL_le (sortL A); rw [sortL_length] at this; omega
            generalize compactL (sortL A) = C at hO5 hcl Hgp
            obtain ⟨oa5, oc5, hsh⟩ := owns_shape hO5
            subst hsh
            have hx5 : w5.heap[X]? = some (.cells #[.string p.key, .string p.name, .slice qa p.pos.length qc] 86 (0, 0)) := (hB5.block _ (by omega)).trans Hx1.out
            have c2 : w5.cell? ⟨X, 2, none⟩ = some (.slice qa p.pos.length qc) := by rw [cell_of_row w5 _ _ _ _ _ hx5]; rfl
            have cf : w5.frozen? ⟨X, 2, none⟩ = false := by simp [World.frozen?, hx5]
            obtain ⟨W6, hW6⟩ : ∃ W6, W6 = w5.setCell ⟨X, 2, none⟩ (.slice oa5 C.length oc5) := ⟨_, rfl⟩
            have hx6 : W6.heap[X]? = some (.cells #[.string p.key, .string p.name, .slice oa5 C.length oc5] 86 (0, 0)) := by rw [hW6]; simp [World.setCell, Array.getElem?_modify, hx5]
            have hg6 : w5.grownBy W6 (some X) := by rw [hW6]; exact gb_setCell w5 X 2 _
            have hB6 := (HB1.out.trans (hB5.mono (by omega))).setCell (p := ⟨X, 2, none⟩) (Nat.le_refl X) (.slice oa5 C.length oc5)
            rw [← hW6] at hB6
            have hO6 : OwnS W6 W1.heap.size (.slice oa5 C.length oc5) C := World.ownsRow.kept hO5 hg6 (.inr fun e => by have := (own_block hO5 X e).1; omega)
            have x0 : W6.cell? ⟨X, 0, none⟩ = some (.string p.key) := by rw [cell_of_row W6 _ _ _ _ _ hx6]; rfl
            have x1 : W6.cell? ⟨X, 1, none⟩ = some (.string p.name) := by rw [cell_of_row W6 _ _ _ _ _ hx6]; rfl
            have x2 : W6.cell? ⟨X, 2, none⟩ = some (.slice oa5 C.length oc5) := by rw [cell_of_row W6 _ _ _ _ _ hx6]; rfl
            have hBw6 := HBw.out W6 hB6
            have hP6 := HOw.out W6 hB6
            have hX6 := lt_of_heap hx6
            have HW6 := Lib.hid hW6
            clear hO4 hg5 hB4 hB5 hO5 hx5 hW6 hx6 hg6 hB6 HBw HOw HB1 Hx1 HS1
            go_upto_region 21 with fail
            rw [← HW6.out]
            clear HW6 c2 cf
            by_cases h10 : 10 < C.length
            · have hr := Lib.hid (HG.out k p HP.out (by rw [Hgp.out]; simpa [overB] using h10))
              go_wp2_with fail
              go_ret2
              rw [hr.out]
              exact ⟨_, rfl, plays_nil _ _, hBw6⟩
            · have Hno' : Hid (∀ q p, q < k + 1 → ps[q]? = some p → overB (grownP ss least week p) = false) := Lib.hid fun q p' hq hp' => by
                rcases Nat.lt_succ_iff_lt_or_eq.1 hq with h | rfl
                · exact Hno.out q p' h hp'
                · rw [HP.out] at hp'; cases hp'; rw [Hgp.out]; simpa [overB] using h10
              obtain ⟨pvs, hpv, hrow, hposs⟩ := hP6
              rw [Hgp.out] at Hsn
              have hlt' : ((ps.take k).map (grownP ss least week)).length ≤ ps.length := by rw [List.length_map]; exact List.length_take_le' _ _
              generalize (ps.take k).map (grownP ss least week) = L at hpv hrow hposs Hsn hlt'
              have hpos' : ∀ (i : Nat) (x : Value) (p' : PD), (pvs ++ [Value.slice oa5 C.length oc5])[i]? = some x → (L ++ [⟨p.key, p.name, C⟩])[i]? = some p' → Strs W6 w.heap.size x p'.pos := by
                intro i x p' hx hp
                by_cases hi : i < L.length
                · rw [List.getElem?_append_left (by omega)] at hx
                  rw [List.getElem?_append_left hi] at hp
                  exact hposs i x p' hx hp
                · have hi2 : i = L.length := by have := (List.getElem?_eq_some_iff.1 hp).1; simp at this; omega
                  subst hi2
                  rw [List.getElem?_append_right (by omega), hpv] at hx
                  rw [List.getElem?_append_right (by omega)] at hp
                  simp at hx hp
                  subst hx hp
                  exact (strs_of_owns hO6 (by omega)).mono (by omega)
              have Hpos6 := Lib.hid hpos'
              clear hposs hpos' hO6
              go_wp2_with (at_builtin; refine wpList_append_own _ rfl _ _ 26 rfl w.heap.size 86 j0 (.agg #[.string ⟨#[]⟩, .string ⟨#[]⟩, .slice none 0 0]) 3 56 Tryz.underlying26 hj hy0 hy1 hy2 rfl (by decide) _ _ _ rfl (hrow.alloc _) ⟨W6.heap.size, 0, none⟩ 1 1 [.string p.key, .string p.name, .slice oa5 C.length oc5] rfl rfl ?c1 ?c2 ?c3 ?c4 ?c5 ?_)
              case c1 => exact cell_three_new _ _ _ _ _
              case c2 => simp [Value.oneCell']
              case c3 => unfold maxLen; omega
              case c4 => omega
              case c5 => have := hBw6.size; simp; omega
              intro v' w7 hown7 hgrow _
              have hB7 : Below w.heap.size w w7 := (hBw6.trans ((below_alloc W6 _).mono hBw6.size)).grown hgrow (by have := hBw6.size; simp; omega) fun r hr => (own_block hrow r hr).1
              have hO7 : OwnPs w7 w.heap.size v' (L ++ [⟨p.key, p.name, C⟩]) := by
                refine ⟨pvs ++ [Value.slice oa5 C.length oc5], by simp [hpv], ?_, fun i x p hx hp => ((Hpos6.out i x p hx hp).below (below_alloc W6 _)).row hgrow fun r hr => ?_⟩
                · rw [plRows_snoc hpv]; simpa using hown7
                · obtain ⟨_, cur, h⟩ := own_block (hrow.alloc _) r hr
                  exact ⟨cur, _, _, h, by decide⟩
              clear hown7 hgrow hrow Hpos6
              go_wp2_with fail
              go_roundw
              case rel => exact ⟨k + 1, by omega, by go_num, Lib.hid (by rw [Hsn.out]; exact hO7), Hno', hB7⟩
              case measure => simp [intOf]; omega
      · obtain rfl : k = ps.length := by omega
        have hT := Lib.hid (List.take_length (l := ps))
        have hr := Lib.hid (HK.out Hno.out)
        have hPl := HO.out
        rw [hT.out] at hPl
        have HPl := Lib.hid (hPl.plays (by simp; omega))
        clear hPl
        go_wp2_with fail
        go_ret2
        rw [hr.out]
        exact ⟨_, rfl, HPl.out, hb⟩
end Go.Proofs.YtmjkbmkjnbpgeaaGreatDoor
