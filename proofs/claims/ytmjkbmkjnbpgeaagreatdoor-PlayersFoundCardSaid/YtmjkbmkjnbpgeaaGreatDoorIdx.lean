import Derived.Test.YtmjkbmkjnbpgeaaGreatDoorRows
import Derived.Test.YtmjkbmkjnbpgeaaGreatDoorBa
namespace Go.Proofs.YtmjkbmkjnbpgeaaGreatDoor
open Go.RowKit

set_option maxHeartbeats 400000 in
theorem playerAt1_calls (c : Nat) (key : ByteArray) (a b : Value) (k : ByteArray) (w : World) (hc : w.cell? ⟨c, 0, none⟩ = some (.string key)) :
    Calls Tryz.prog 158 #[.agg #[.string k, a, b], .pointer (some ⟨c, 0, none⟩)] w fun e w' => e = .returned (.bool (beqS k key)) ∧ Below w.heap.size w w' := by
  have hlt := World.block_lt_of_cell? _ _ hc
  have hc1 : ∀ o, (w.alloc o).cell? ⟨c, 0, none⟩ = some (.string key) := fun o => by rw [World.cell?_alloc_past _ _ _ hlt]; exact hc
  go_enter Tryz.func158, Tryz.ntmps158
  go_wp2_with fail
  go_ret
  exact ⟨rfl, (Below.refl _ _).alloc (Nat.le_refl _) _⟩

/-- What an index of a player is: at least 0 if there is one. -/
def IdxOf (ps : List PD) (key : ByteArray) (w : World) (e : Ending) (w' : World) : Prop :=
  ∃ r : Int, e = .returned (.int .i64 r) ∧ -1 ≤ r ∧ r ≤ 1000000 ∧ (0 ≤ r ↔ hasP ps key = true) ∧ Below w.heap.size w w'

theorem hasP_none {ps : List PD} {key : ByteArray} (h : ∀ (i : Nat) (p : PD), ps[i]? = some p → beqS p.key key = false) : hasP ps key = false := by
  unfold hasP
  rw [List.any_eq_false]
  intro p hp
  obtain ⟨i, hi⟩ := List.getElem?_of_mem hp
  simp [h i p hi]
theorem hasP_some {ps : List PD} {key : ByteArray} {i : Nat} {p : PD} (hp : ps[i]? = some p) (h : beqS p.key key = true) : hasP ps key = true := by
  unfold hasP
  rw [List.any_eq_true]
  exact ⟨p, List.mem_of_getElem? hp, h⟩

set_option maxHeartbeats 400000 in
theorem indexFunc_calls (c lo : Nat) (key : ByteArray) (v : Value) (ps : List PD) (w : World) (hp : Plays w lo v ps) (hc : w.cell? ⟨c, 0, none⟩ = some (.string key)) :
    Calls Tryz.prog 157 #[v, .func (.func 158) #[] #[.pointer (some ⟨c, 0, none⟩)]] w (IdxOf ps key w) := by
  rcases plays_at hp with ⟨rfl, rfl⟩ | ⟨g, off, cap, rfl, _, hg, hn, hcell⟩
  · clear hp hc
    go_enter Tryz.func157, Tryz.ntmps157
    go_wp2
    refine wp_loop_rounds 1 ?_
    rw [rounds_succ]
    go_wp2
    go_ret
    exact ⟨-1, rfl, by omega, by omega, by simp [hasP], Below.refl _ _⟩
  · clear hp
    go_enter Tryz.func157, Tryz.ntmps157
    go_wp2_with fail
    go_loopw [8] (fun i wr => ∃ k : Nat, k ≤ ps.length ∧ i = .int .i64 k ∧ Below w.heap.size w wr ∧ ∀ (i : Nat) (p : PD), i < k → ps[i]? = some p → beqS p.key key = false) (fun i _ => ps.length - (intOf i).toNat)
    case atStart => exact ⟨0, Nat.zero_le _, rfl, Below.refl _ _, fun _ _ h => by omega⟩
    case round =>
      obtain ⟨k, hk, rfl, hb, hno⟩ := hrel
      have Hno := Lib.hid hno
      clear hno
      by_cases hlt : k < ps.length
      · obtain ⟨p, hpk⟩ : ∃ p, ps[k]? = some p := ⟨ps[k], List.getElem?_eq_getElem hlt⟩
        obtain ⟨pv, h0, h1, h2, _⟩ := hcell k p hpk
        have g0 := below_cell hb h0
        have g1 := below_cell hb h1
        have g2 := below_cell hb h2
        have gc := below_cell hb hc
        have Hpk := Lib.hid hpk
        clear hpk h0 h1 h2 hcell hc
        go_wp2_with fail
        refine (playerAt1_calls c key _ _ _ _ gc).mono ?_
        rintro e w' ⟨rfl, hb'⟩
        have hb2 := hb.trans (hb'.mono hb.size)
        cases hq : beqS p.key key
        · go_wp2_with fail
          go_roundw
          case rel => exact ⟨k + 1, by omega, by go_num, hb2, fun i q hi hqi => by
            rcases Nat.lt_succ_iff_lt_or_eq.1 hi with h | rfl
            · exact Hno.out i q h hqi
            · rw [Hpk.out] at hqi; cases hqi; exact hq⟩
          case measure => simp [intOf]; omega
        · go_wp2_with fail
          go_ret
          exact ⟨k, rfl, by omega, by omega, by simp [hasP_some Hpk.out hq], hb2⟩
      · obtain rfl : k = ps.length := by omega
        go_wp2_with fail
        go_ret
        refine ⟨-1, rfl, by omega, by omega, ?_, hb⟩
        rw [hasP_none fun i p hp => Hno.out i p (List.getElem?_eq_some_iff.1 hp).1 hp]
        simp
set_option maxHeartbeats 400000 in
theorem playerAt_calls (lo : Nat) (key : ByteArray) (v : Value) (ps : List PD) (w : World) (hp : Plays w lo v ps) :
    Calls Tryz.prog 83 #[v, .string key] w (IdxOf ps key w) := by
  have hp1 : ∀ o, Plays (w.alloc o) lo v ps := fun o => hp.below (below_alloc w o)
  clear hp
  go_enter Tryz.func83, Tryz.ntmps83
  go_wp2_with fail
  refine (indexFunc_calls w.heap.size lo key v ps _ (hp1 _) (by rw [World.cell?_alloc_at _ _ _ _ rfl]; rfl)).mono ?_
  rintro e w' ⟨r, rfl, h1, h2, h3, hb⟩
  go_wp2_with fail
  go_ret
  exact ⟨r, rfl, h1, h2, h3, (below_alloc w _).trans (hb.mono (by simp))⟩
def SomeNat (w : World) (e : Ending) (w' : World) : Prop := ∃ r : Nat, e = .returned (.int .i64 (r : Int)) ∧ Below w.heap.size w w'
theorem playerAt_yes (lo : Nat) (key : ByteArray) (v : Value) (ps : List PD) (w : World) (hp : Plays w lo v ps) (h : hasP ps key = true) :
    Calls Tryz.prog 83 #[v, .string key] w (SomeNat w) :=
  (playerAt_calls lo key v ps w hp).mono fun e w' ⟨r, he, h0, _, h2, hb⟩ => ⟨r.toNat, by rw [he, Int.toNat_of_nonneg (h2.2 h)], hb⟩
theorem playerAt_no (lo : Nat) (key : ByteArray) (v : Value) (ps : List PD) (w : World) (hp : Plays w lo v ps) (h : hasP ps key = false) :
    Calls Tryz.prog 83 #[v, .string key] w fun e w' => e = .returned (.int .i64 (-1)) ∧ Below w.heap.size w w' :=
  (playerAt_calls lo key v ps w hp).mono fun e w' ⟨r, he, h0, _, h2, hb⟩ => ⟨by
    have : ¬ 0 ≤ r := fun h' => by rw [h2.1 h'] at h; cases h
    rw [he, show r = -1 by omega], hb⟩
end Go.Proofs.YtmjkbmkjnbpgeaaGreatDoor
