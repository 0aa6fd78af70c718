/- The reference's ClubOf and SquadOf, and what is told of one call. The reference's SquadOf, and slices.Equal. -/
import Derived.Test.YtmjkbmkjnbpgeaaGreatDoorRefd
namespace Go.Proofs.YtmjkbmkjnbpgeaaGreatDoor
open Go.RowKit

set_option maxRecDepth 100000 in
set_option maxHeartbeats 1000000 in
theorem playerFault_calls (lo : Nat) (who : ByteArray) (v : Value) (ps : List PD) (w : World) (hp : Plays w lo v ps) :
    Calls Tryz.prog 17 #[v, .string who] w (IntBelow (unlessE (hasP ps who) 8) w) := by
  obtain ⟨pa, pc, rfl⟩ := plays_shape hp
  have HP := Lib.hid hp
  clear hp
  cases hh : hasP ps who
  · have HH := Lib.hid hh
    clear hh
    go_enter Tryz.func17, Tryz.ntmps17
    go_wp2_with fail
    refine (playerAt_no lo who _ ps _ HP.out HH.out).mono ?_
    rintro e w1 ⟨rfl, hb1⟩
    go_wp2_with fail
    refine (when_calls _ _ _).mono ?_
    rintro e w' ⟨rfl, rfl⟩
    go_wp2_with fail
    go_ret
    exact ⟨rfl, hb1⟩
  · have HH := Lib.hid hh
    clear hh
    go_enter Tryz.func17, Tryz.ntmps17
    go_wp2_with fail
    refine (playerAt_yes lo who _ ps _ HP.out HH.out).mono ?_
    rintro e w1 ⟨r, rfl, hb1⟩
    have hr : decide ((r : Int) < 0) = false := by rw [decide_eq_false_iff_not]; omega
    go_wp2_with fail
    refine (when_calls _ _ _).mono ?_
    rintro e w' ⟨rfl, rfl⟩
    go_wp2_with fail
    go_ret
    exact ⟨rfl, hb1⟩
set_option maxRecDepth 100000 in
set_option maxHeartbeats 1000000 in
theorem weekFault_calls (n : Int) (w : World) :
    Calls Tryz.prog 18 #[.int .i64 n] w fun e w' => e = .returned (.int .i64 (unlessE (betwB n 1 60) 1)) ∧ w = w' := by
  have hW := weekR_calls n w
  generalize betwB n 1 60 = b at hW ⊢
  have HW := Lib.hid hW
  clear hW
  cases b <;>
  · go_enter Tryz.func18, Tryz.ntmps18
    go_wp2_with fail
    refine HW.out.mono ?_
    rintro e w' ⟨rfl, rfl⟩
    go_wp2_with fail
    refine (when_calls _ 1 w).mono ?_
    rintro e w' ⟨rfl, rfl⟩
    go_wp2_with fail
    go_ret
    exact ⟨rfl, rfl⟩
set_option maxRecDepth 100000 in
set_option maxHeartbeats 1000000 in
theorem nameFault_calls (s : ByteArray) (w : World) (hs : s.size ≤ 1000000) :
    Calls Tryz.prog 19 #[.string s] w fun e w' => e = .returned (.int .i64 (unlessE (keyB s) 5)) ∧ w = w' := by
  have hW := keyR_calls s w hs
  generalize keyB s = b at hW ⊢
  have HW := Lib.hid hW
  clear hW
  cases b <;>
  · go_enter Tryz.func19, Tryz.ntmps19
    go_wp2_with fail
    refine HW.out.mono ?_
    rintro e w' ⟨rfl, rfl⟩
    go_wp2_with fail
    refine (when_calls _ 5 w).mono ?_
    rintro e w' ⟨rfl, rfl⟩
    go_wp2_with fail
    go_ret
    exact ⟨rfl, rfl⟩

/-- The club after the stints of one week. -/
def innerC (who : ByteArray) (wk : Int) (c : ByteArray) (ss : List SD) : ByteArray := ss.foldl (fun c s => if beqS s.player who && (s.week == wk) then s.club else c) c
theorem innerC_snoc {who : ByteArray} {wk : Int} {c : ByteArray} {ss : List SD} {k : Nat} {s : SD} (hk : ss[k]? = some s) : innerC who wk c (ss.take (k + 1)) = if beqS s.player who && (s.week == wk) then s.club else innerC who wk c (ss.take k) := by
  have hlt : k < ss.length := (List.getElem?_eq_some_iff.1 hk).1
  have e : ss.take (k + 1) = ss.take k ++ [s] := by
    rw [List.take_succ_eq_append_getElem hlt, (List.getElem?_eq_some_iff.1 hk).2]
  unfold innerC
  rw [e, List.foldl_append]
  rfl
/-- The club of a player after n weeks. -/
def clubN (ss : List SD) (who : ByteArray) : Nat → ByteArray
  | 0 => ⟨#[]⟩
  | n + 1 => innerC who ((n : Int) + 1) (clubN ss who n) ss

set_option maxRecDepth 100000 in
set_option maxHeartbeats 4000000 in
theorem clubOf_calls (lo : Nat) (who : ByteArray) (m : Nat) (v : Value) (ss : List SD) (w : World) (hS : Sts w lo v ss) (hn : ss.length ≤ 1000000) (hm : m ≤ 1000) :
    Calls Tryz.prog 20 #[v, .string who, .int .i64 (m : Int)] w fun e w' => e = .returned (.string (clubN ss who m)) ∧ Below w.heap.size w w' := by
  obtain ⟨sa, sc, rfl⟩ := sts_shape hS
  have HS := Lib.hid hS
  clear hS
  go_enter Tryz.func20, Tryz.ntmps20
  go_wp2_with fail
  go_loopw [7, 8] (fun c i wr => ∃ n : Nat, n ≤ m ∧ i = .int .i64 ((n : Int) + 1) ∧ c = .string (clubN ss who n) ∧ Below w.heap.size w wr) (fun _ i _ => m + 1 - (intOf i).toNat)
  case atStart => exact ⟨0, Nat.zero_le _, rfl, rfl, Below.refl _ _⟩
  case round =>
    obtain ⟨n, hnm, rfl, rfl, hb⟩ := hrel
    by_cases hlt : n < m
    · have HCN := Lib.hid (show clubN ss who (n + 1) = innerC who ((n : Int) + 1) (clubN ss who n) ss from rfl)
      go_wp2_with fail
      go_loopw [7, 18] (fun c i wq => ∃ k : Nat, k ≤ ss.length ∧ i = .int .i64 (k : Int) ∧ c = .string (innerC who ((n : Int) + 1) (clubN ss who n) (ss.take k)) ∧ Below w.heap.size w wq) (fun _ i _ => ss.length - (intOf i).toNat)
      case atStart => exact ⟨0, Nat.zero_le _, rfl, rfl, hb⟩
      case round =>
        obtain ⟨k, hk, rfl, rfl, hb2⟩ := hrel
        by_cases hlk : k < ss.length
        · obtain ⟨s, hsk⟩ : ∃ s, ss[k]? = some s := ⟨ss[k], List.getElem?_eq_getElem hlk⟩
          rcases sts_at HS.out with ⟨_, h⟩ | ⟨g, off, cap, e, _, _, _, hc⟩
          · simp [h] at hlk
          · simp only [Value.slice.injEq, true_and] at e
            obtain ⟨rfl, rfl⟩ := e
            obtain ⟨h0, h1, h2⟩ := hc k s hsk
            have g0 := below_cell hb2 h0
            have g1 := below_cell hb2 h1
            have g2 := below_cell hb2 h2
            have Hst := Lib.hid (innerC_snoc (who := who) (wk := (n : Int) + 1) (c := clubN ss who n) hsk)
            have hbo := below_step hb2 (below_alloc wr (.cells #[.string s.player, .string s.club, .int .i64 s.week] 98))
            clear h0 h1 h2 hc hsk
            cases hq : beqS s.player who
            · have e1 : (s.player.toList == who.toList) = false := hq
              have e2 : (!(s.player.toList == who.toList)) = true := by rw [e1]; rfl
              have Hst' := Lib.hid (show innerC who ((n : Int) + 1) (clubN ss who n) (ss.take (k + 1)) = innerC who ((n : Int) + 1) (clubN ss who n) (ss.take k) by rw [Hst.out, hq]; rfl)
              clear hq
              go_wp2_with fail
              go_roundw
              case rel => exact ⟨k + 1, by omega, by go_num, by rw [Hst'.out], hbo⟩
              case measure => simp [intOf]; omega
            · have e1 : (s.player.toList == who.toList) = true := hq
              have e2 : (!(s.player.toList == who.toList)) = false := by rw [e1]; rfl
              by_cases hwk : s.week = (n : Int) + 1
              · have e3 : (s.week == (n : Int) + 1) = true := by rw [beq_iff_eq]; exact hwk
                have Hst' := Lib.hid (show innerC who ((n : Int) + 1) (clubN ss who n) (ss.take (k + 1)) = s.club by rw [Hst.out, hq, e3]; rfl)
                clear hq hwk
                go_wp2_with fail
                go_roundw
                case rel => exact ⟨k + 1, by omega, by go_num, by rw [Hst'.out], hbo⟩
                case measure => simp [intOf]; omega
              · have e3 : (s.week == (n : Int) + 1) = false := by rw [beq_eq_false_iff_ne]; exact hwk
                have Hst' := Lib.hid (show innerC who ((n : Int) + 1) (clubN ss who n) (ss.take (k + 1)) = innerC who ((n : Int) + 1) (clubN ss who n) (ss.take k) by rw [Hst.out, hq, e3]; rfl)
                clear hq hwk
                go_wp2_with fail
                go_roundw
                case rel => exact ⟨k + 1, by omega, by go_num, by rw [Hst'.out], hbo⟩
                case measure => simp [intOf]; omega
        · obtain rfl : k = ss.length := by omega
          have HT := Lib.hid (List.take_length (l := ss))
          go_wp2_with fail
          go_roundw
          case rel => exact ⟨n + 1, by omega, by go_num, by rw [HCN.out, HT.out], hb2⟩
          case measure => simp [intOf]; omega
    · obtain rfl : n = m := by omega
      go_wp2_with fail
      go_ret
      exact ⟨rfl, hb⟩
end Go.Proofs.YtmjkbmkjnbpgeaaGreatDoor
namespace Go.Proofs.YtmjkbmkjnbpgeaaGreatDoor
open Go.RowKit

set_option maxRecDepth 100000 in
set_option maxHeartbeats 2000000 in
theorem squadOf_calls (lo lo' : Nat) (club : ByteArray) (m : Nat) (v sv : Value) (ps : List PD) (ss : List SD) (w : World) (hp : Plays w lo v ps) (hS : Sts w lo' sv ss) (hn : ss.length ≤ 1000000) (hm : m ≤ 1000) :
    Calls Tryz.prog 21 #[v, sv, .string club, .int .i64 (m : Int)] w (MadeS (thoseL (fun p => beqS (clubN ss p.key m) club) ps) w) := by
  obtain ⟨i0, hi, hz0, hz1, hz2⟩ := info_parts info_str
  obtain ⟨sa, sc, rfl⟩ := sts_shape hS
  have HS := Lib.hid hS
  clear hS
  rcases plays_at hp with ⟨rfl, rfl⟩ | ⟨gg, off, cap, rfl, hlo, hg, hnn, hcell⟩
  · clear hp hi hz0 hz1 hz2
    go_enter Tryz.func21, Tryz.ntmps21
    go_wp2
    refine wp_loop_rounds 1 ?_
    rw [rounds_succ]
    go_wp2
    go_ret
    exact ⟨_, World.ownsRow_nil _ _ _ _, rfl, Below.refl _ _⟩
  · have Hc := Lib.hid hcell
    clear hp hcell
    go_enter Tryz.func21, Tryz.ntmps21
    go_wp2_with fail
    go_loopw [9, 14] (fun out i wr => ∃ k : Nat, k ≤ ps.length ∧ i = .int .i64 k ∧ OwnS wr w.heap.size out (thoseL (fun p => beqS (clubN ss p.key m) club) (ps.take k)) ∧ Below w.heap.size w wr) (fun _ i _ => ps.length - (intOf i).toNat)
    case atStart => exact ⟨0, Nat.zero_le _, rfl, World.ownsRow_nil _ _ _ _, Below.refl _ _⟩
    case round =>
      obtain ⟨k, hk, rfl, hown, hb⟩ := hrel
      by_cases hlt : k < ps.length
      · obtain ⟨p, hpk⟩ : ∃ p, ps[k]? = some p := ⟨ps[k], List.getElem?_eq_getElem hlt⟩
        obtain ⟨pv, h0, h1, h2, h3⟩ := Hc.out k p hpk
        have g0 := below_cell hb h0
        have g1 := below_cell hb h1
        have g2 := below_cell hb h2
        obtain ⟨qa, qc, rfl⟩ := strs_shape h3
        have Hs := Lib.hid (thoseL_snoc (fun p => beqS (clubN ss p.key m) club) hpk)
        have hle := Lib.hid (thoseL_le (fun p => beqS (clubN ss p.key m) club) (ps.take k))
        obtain ⟨c, hc⟩ : ∃ c, clubN ss p.key m = c := ⟨_, rfl⟩
        have Hf := Lib.hid (show (fun p : PD => beqS (clubN ss p.key m) club) p = beqS c club by rw [← hc])
        have HC := Lib.hid hc
        obtain ⟨f, hf⟩ : ∃ f, f = (fun p : PD => beqS (clubN ss p.key m) club) := ⟨_, rfl⟩
        rw [← hf] at hown Hs hle Hf
        have HF := Lib.hid hf
        clear hc hf
        have hbo := below_step hb (below_alloc wr (.cells #[.string p.key, .string p.name, .slice qa p.pos.length qc] 86))
        have HSo := Lib.hid ((HS.out.below hb).below (below_alloc wr (.cells #[.string p.key, .string p.name, .slice qa p.pos.length qc] 86)))
        clear hpk h0 h1 h2 h3
        go_wp2_with fail
        refine (clubOf_calls lo' p.key m _ ss _ HSo.out hn hm).mono ?_
        rintro e w1 ⟨rfl, hb1⟩
        have hown1 : OwnS w1 w.heap.size u9 (thoseL f (ps.take k)) := (World.ownsRow.alloc hown (.cells #[.string p.key, .string p.name, .slice qa p.pos.length qc] 86)).kept (gb_below hb1 none) (by cases hv : Value.ownBlock _ <;> simp)
        have hbw1 := below_step hbo hb1
        have d0 := below_cell hb1 (show (wr.alloc (.cells #[.string p.key, .string p.name, .slice qa p.pos.length qc] 86)).cell? ⟨wr.heap.size, 0, none⟩ = some (.string p.key) by rw [World.cell?_alloc_at _ _ _ _ rfl]; rfl)
        clear hbo hown g0 g1 g2
        rw [HC.out]
        cases hfp : beqS c club
        · have e1 : (c.toList == club.toList) = false := hfp
          have e2 : (!(c.toList == club.toList)) = true := by rw [e1]; rfl
          have Hs' := Lib.hid (show thoseL f (ps.take (k + 1)) = thoseL f (ps.take k) by rw [Hs.out, HC.out, hfp]; simp)
          clear hfp
          go_wp2_with fail
          go_roundw
          case rel => exact ⟨k + 1, by omega, by go_num, by rw [← HF.out, Hs'.out]; exact hown1, hbw1⟩
          case measure => simp [intOf]; omega
        · have e1 : (c.toList == club.toList) = true := hfp
          have e2 : (!(c.toList == club.toList)) = false := by rw [e1]; rfl
          have Hs' := Lib.hid (show thoseL f (ps.take (k + 1)) = thoseL f (ps.take k) ++ [p.key] by rw [Hs.out, HC.out, hfp]; simp)
          have hl : (thoseL f (ps.take k)).length ≤ 1000000 := by have := hle.out; have := List.length_take_le k ps; omega
          clear hfp
          go_wp2_with (at_builtin; refine wpList_append_own _ rfl _ _ 35 rfl w.heap.size 9 i0 (.string ⟨#[]⟩) 1 16 Tryz.underlying35 hi hz0 hz1 hz2 rfl (by decide) _ _ _ rfl (World.ownsRow.alloc hown1 _) ⟨w1.heap.size, 0, none⟩ 1 1 [.string p.key] rfl rfl ?c1 ?c2 ?c3 ?c4 ?c5 ?_)
          case c1 => exact cell_one_new _ _ _
          case c2 => simp [Value.oneCell']
          case c3 => unfold maxLen; omega
          case c4 => omega
          case c5 => have := hbw1.size; simp; omega
          intro v' w2 hown2 hgrow _
          have hown2' : OwnS w2 w.heap.size v' (thoseL f (ps.take k) ++ [p.key]) := by unfold OwnS; simpa using hown2
          have hbw2 : Below w.heap.size w w2 := (below_step hbw1 (below_alloc w1 _)).grown hgrow (by have := hbw1.size; simp; omega) fun r hr => (own_block hown1 r hr).1
          clear hown2 hgrow
          go_wp2_with fail
          go_roundw
          case rel => exact ⟨k + 1, by omega, by go_num, by rw [← HF.out, Hs'.out]; exact hown2', hbw2⟩
          case measure => simp [intOf]; omega
      · obtain rfl : k = ps.length := by omega
        have hT := Lib.hid (List.take_length (l := ps))
        go_wp2_with fail
        go_ret
        exact ⟨_, by rw [hT.out] at hown; exact hown, rfl, hb⟩

/-- slices.Equal on two rows of strings. -/
theorem equal_calls (lo lo' : Nat) (v v' : Value) (ks js : List ByteArray) (w : World) (hv : Strs w lo v ks) (hv' : Strs w lo' v' js) (hk : ks.length ≤ 1000000) (hj : js.length ≤ 1000000) :
    Calls Tryz.prog 24 #[v, v'] w (BoolIs (decide (ks = js)) w) := by
  rcases strs_at hv with ⟨rfl, rfl⟩ | ⟨g, off, cap, rfl, _, _, _, hc⟩
  · obtain ⟨a, c, rfl⟩ := strs_shape' hv'
    refine (Tryz.slices_Equal_string_empty _ _ _ _ _ w (by omega)).mono ?_
    rintro e w' ⟨rfl, rfl⟩
    refine ⟨?_, Below.refl _ _⟩
    congr 3
    exact propext ⟨fun h => (List.eq_nil_of_length_eq_zero h).symm, fun h => by rw [← h]; rfl⟩
  · rcases strs_at hv' with ⟨rfl, rfl⟩ | ⟨g', off', cap', rfl, _, _, _, hc'⟩
    · by_cases h0 : ks.length = 0
      · have : ks = [] := List.eq_nil_of_length_eq_zero h0
        subst this
        refine (Tryz.slices_Equal_string_empty _ _ _ _ _ w (by simp)).mono ?_
        rintro e w' ⟨rfl, rfl⟩
        exact ⟨by simp, Below.refl _ _⟩
      · refine (Tryz.slices_Equal_string_lens _ _ _ _ _ _ w (by simpa using h0)).mono ?_
        rintro e w' ⟨rfl, rfl⟩
        refine ⟨?_, Below.refl _ _⟩
        have : ¬ ks = [] := fun e => h0 (by rw [e]; rfl)
        simp [this]
    · have cell : ∀ (xs : List ByteArray) (b o : Nat), (∀ (i : Nat) (k : ByteArray), xs[i]? = some k → w.cell? ⟨b, o + i, none⟩ = some (.string k)) → ∀ j, j < xs.length → w.cell? ⟨b, o + j, none⟩ = some (.string (xs.getD j ByteArray.empty)) := fun xs b o h j hj => by
        rw [h j xs[j] (List.getElem?_eq_getElem hj)]
        simp [List.getD_eq_getElem?_getD, List.getElem?_eq_getElem hj]
      refine (Tryz.slices_Equal_string g off ks.length cap g' off' js.length cap' ks js w (Nat.le_refl _) (Nat.le_refl _) (by omega) (by omega) (cell ks g off hc) (cell js g' off' hc')).mono ?_
      rintro e w' ⟨rfl, q, rfl⟩
      exact ⟨by rw [List.take_length, List.take_length], have h := Below.refl w.heap.size w; ⟨h.os, h.tape, h.output, h.size, h.block⟩⟩
end Go.Proofs.YtmjkbmkjnbpgeaaGreatDoor
