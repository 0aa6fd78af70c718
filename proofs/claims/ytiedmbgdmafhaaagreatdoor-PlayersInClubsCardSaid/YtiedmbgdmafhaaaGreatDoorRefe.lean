/- The reference's ClubOf and SquadOf, and what is told of one call. -/
import Derived.Test.YtiedmbgdmafhaaaGreatDoorRefd
namespace Go.Proofs.YtiedmbgdmafhaaaGreatDoor
open Go.RowKit

set_option maxRecDepth 100000 in
set_option maxHeartbeats 1000000 in
theorem playerFault_calls (lo : Nat) (who : ByteArray) (v : Value) (ps : List PD) (w : World) (hp : Plays w lo v ps) :
    Calls Tryz.prog 18 #[v, .string who] w (IntBelow (unlessE (hasP ps who) 8) w) := by
  obtain ⟨pa, pc, rfl⟩ := plays_shape hp
  have HP := Lib.hid hp
  clear hp
  cases hh : hasP ps who
  · have HH := Lib.hid hh
    clear hh
    go_enter Tryz.func18, Tryz.ntmps18
    go_wp2_with fail
    refine (playerAt_no lo who _ ps _ HP.out HH.out).mono ?_
    rintro e w1 ⟨rfl, hb1⟩
    go_wp2_with fail
    refine (when_calls _ _ _).mono ?_
    rintro e w' ⟨rfl, rfl⟩
    go_wp2_with fail
    go_ret
    exact ⟨rfl, hb1⟩
  · have HH := Lib.hid hh
    clear hh
    go_enter Tryz.func18, Tryz.ntmps18
    go_wp2_with fail
    refine (playerAt_yes lo who _ ps _ HP.out HH.out).mono ?_
    rintro e w1 ⟨r, rfl, hb1⟩
    have hr : decide ((r : Int) < 0) = false := by rw [decide_eq_false_iff_not]; omega
    go_wp2_with fail
    refine (when_calls _ _ _).mono ?_
    rintro e w' ⟨rfl, rfl⟩
    go_wp2_with fail
    go_ret
    exact ⟨rfl, hb1⟩
set_option maxRecDepth 100000 in
set_option maxHeartbeats 1000000 in
theorem weekFault_calls (n : Int) (w : World) :
    Calls Tryz.prog 19 #[.int .i64 n] w fun e w' => e = .returned (.int .i64 (unlessE (betwB n 1 60) 1)) ∧ w = w' := by
  have hW := weekR_calls n w
  generalize betwB n 1 60 = b at hW ⊢
  have HW := Lib.hid hW
  clear hW
  cases b <;>
  · go_enter Tryz.func19, Tryz.ntmps19
    go_wp2_with fail
    refine HW.out.mono ?_
    rintro e w' ⟨rfl, rfl⟩
    go_wp2_with fail
    refine (when_calls _ 1 w).mono ?_
    rintro e w' ⟨rfl, rfl⟩
    go_wp2_with fail
    go_ret
    exact ⟨rfl, rfl⟩
set_option maxRecDepth 100000 in
set_option maxHeartbeats 1000000 in
theorem nameFault_calls (s : ByteArray) (w : World) (hs : s.size ≤ 1000000) :
    Calls Tryz.prog 20 #[.string s] w fun e w' => e = .returned (.int .i64 (unlessE (keyB s) 5)) ∧ w = w' := by
  have hW := keyR_calls s w hs
  generalize keyB s = b at hW ⊢
  have HW := Lib.hid hW
  clear hW
  cases b <;>
  · go_enter Tryz.func20, Tryz.ntmps20
    go_wp2_with fail
    refine HW.out.mono ?_
    rintro e w' ⟨rfl, rfl⟩
    go_wp2_with fail
    refine (when_calls _ 5 w).mono ?_
    rintro e w' ⟨rfl, rfl⟩
    go_wp2_with fail
    go_ret
    exact ⟨rfl, rfl⟩

/-- The club after the stints of one week. -/
def innerC (who : ByteArray) (wk : Int) (c : ByteArray) (ss : List SD) : ByteArray := ss.foldl (fun c s => if beqS s.player who && (s.week == wk) then s.club else c) c
theorem innerC_snoc {who : ByteArray} {wk : Int} {c : ByteArray} {ss : List SD} {k : Nat} {s : SD} (hk : ss[k]? = some s) : innerC who wk c (ss.take (k + 1)) = if beqS s.player who && (s.week == wk) then s.club else innerC who wk c (ss.take k) := by
  have hlt : k < ss.length := (List.getElem?_eq_some_iff.1 hk).1
  have e : ss.take (k + 1) = ss.take k ++ [s] := by
    rw [List.take_succ_eq_append_getElem hlt, (List.getElem?_eq_some_iff.1 hk).2]
  unfold innerC
  rw [e, List.foldl_append]
  rfl
/-- The club of a player after n weeks. -/
def clubN (ss : List SD) (who : ByteArray) : Nat → ByteArray
  | 0 => ⟨#[]⟩
  | n + 1 => innerC who ((n : Int) + 1) (clubN ss who n) ss

set_option maxRecDepth 100000 in
set_option maxHeartbeats 4000000 in
theorem clubOf_calls (lo : Nat) (who : ByteArray) (m : Nat) (v : Value) (ss : List SD) (w : World) (hS : Sts w lo v ss) (hn : ss.length ≤ 1000000) (hm : m ≤ 1000) :
    Calls Tryz.prog 21 #[v, .string who, .int .i64 (m : Int)] w fun e w' => e = .returned (.string (clubN ss who m)) ∧ Below w.heap.size w w' := by
  obtain ⟨sa, sc, rfl⟩ := sts_shape hS
  have HS := Lib.hid hS
  clear hS
  go_enter Tryz.func21, Tryz.ntmps21
  go_wp2_with fail
  go_loopw [7, 8] (fun c i wr => ∃ n : Nat, n ≤ m ∧ i = .int .i64 ((n : Int) + 1) ∧ c = .string (clubN ss who n) ∧ Below w.heap.size w wr) (fun _ i _ => m + 1 - (intOf i).toNat)
  case atStart => exact ⟨0, Nat.zero_le _, rfl, rfl, Below.refl _ _⟩
  case round =>
    obtain ⟨n, hnm, rfl, rfl, hb⟩ := hrel
    by_cases hlt : n < m
    · have HCN := Lib.hid (show clubN ss who (n + 1) = innerC who ((n : Int) + 1) (clubN ss who n) ss from rfl)
      go_wp2_with fail
      go_loopw [7, 18] (fun c i wq => ∃ k : Nat, k ≤ ss.length ∧ i = .int .i64 (k : Int) ∧ c = .string (innerC who ((n : Int) + 1) (clubN ss who n) (ss.take k)) ∧ Below w.heap.size w wq) (fun _ i _ => ss.length - (intOf i).toNat)
      case atStart => exact ⟨0, Nat.zero_le _, rfl, rfl, hb⟩
      case round =>
        obtain ⟨k, hk, rfl, rfl, hb2⟩ := hrel
        by_cases hlk : k < ss.length
        · obtain ⟨s, hsk⟩ : ∃ s, ss[k]? = some s := ⟨ss[k], List.getElem?_eq_getElem hlk⟩
          rcases sts_at HS.out with ⟨_, h⟩ | ⟨g, off, cap, e, _, _, _, hc⟩
          · simp [h] at hlk
          · simp only [Value.slice.injEq, true_and] at e
            obtain ⟨rfl, rfl⟩ := e
            obtain ⟨h0, h1, h2⟩ := hc k s hsk
            have g0 := below_cell hb2 h0
            have g1 := below_cell hb2 h1
            have g2 := below_cell hb2 h2
            have Hst := Lib.hid (innerC_snoc (who := who) (wk := (n : Int) + 1) (c := clubN ss who n) hsk)
            have hbo := below_step hb2 (below_alloc wr (.cells #[.string s.player, .string s.club, .int .i64 s.week] 110))
            clear h0 h1 h2 hc hsk
            cases hq : beqS s.player who
            · have e1 : (s.player.toList == who.toList) = false := hq
              have e2 : (!(s.player.toList == who.toList)) = true := by rw [e1]; rfl
              have Hst' := Lib.hid (show innerC who ((n : Int) + 1) (clubN ss who n) (ss.take (k + 1)) = innerC who ((n : Int) + 1) (clubN ss who n) (ss.take k) by rw [Hst.out, hq]; rfl)
              clear hq
              go_wp2_with fail
              go_roundw
              case rel => exact ⟨k + 1, by omega, by go_num, by rw [Hst'.out], hbo⟩
              case measure => simp [intOf]; omega
            · have e1 : (s.player.toList == who.toList) = true := hq
              have e2 : (!(s.player.toList == who.toList)) = false := by rw [e1]; rfl
              by_cases hwk : s.week = (n : Int) + 1
              · have e3 : (s.week == (n : Int) + 1) = true := by rw [beq_iff_eq]; exact hwk
                have Hst' := Lib.hid (show innerC who ((n : Int) + 1) (clubN ss who n) (ss.take (k + 1)) = s.club by rw [Hst.out, hq, e3]; rfl)
                clear hq hwk
                go_wp2_with fail
                go_roundw
                case rel => exact ⟨k + 1, by omega, by go_num, by rw [Hst'.out], hbo⟩
                case measure => simp [intOf]; omega
              · have e3 : (s.week == (n : Int) + 1) = false := by rw [beq_eq_false_iff_ne]; exact hwk
                have Hst' := Lib.hid (show innerC who ((n : Int) + 1) (clubN ss who n) (ss.take (k + 1)) = innerC who ((n : Int) + 1) (clubN ss who n) (ss.take k) by rw [Hst.out, hq, e3]; rfl)
                clear hq hwk
                go_wp2_with fail
                go_roundw
                case rel => exact ⟨k + 1, by omega, by go_num, by rw [Hst'.out], hbo⟩
                case measure => simp [intOf]; omega
        · obtain rfl : k = ss.length := by omega
          have HT := Lib.hid (List.take_length (l := ss))
          go_wp2_with fail
          go_roundw
          case rel => exact ⟨n + 1, by omega, by go_num, by rw [HCN.out, HT.out], hb2⟩
          case measure => simp [intOf]; omega
    · obtain rfl : n = m := by omega
      go_wp2_with fail
      go_ret
      exact ⟨rfl, hb⟩
end Go.Proofs.YtiedmbgdmafhaaaGreatDoor
