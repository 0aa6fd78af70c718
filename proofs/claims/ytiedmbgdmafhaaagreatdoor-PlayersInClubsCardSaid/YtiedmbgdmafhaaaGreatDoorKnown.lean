/- find and known: a binary search over players. -/
import Derived.Test.YtiedmbgdmafhaaaGreatDoorEach
import Derived.Test.YtiedmbgdmafhaaaGreatDoorOrd
import Derived.Test.YtiedmbgdmafhaaaGreatDoorLibb
namespace Go.Proofs.YtiedmbgdmafhaaaGreatDoor
open Go.RowKit

/-- The key of player i. -/
def keyAt (ps : List PD) (i : Nat) : ByteArray := (ps[i]?.map PD.key).getD ByteArray.empty
theorem keyAt_some {ps : List PD} {i : Nat} {p : PD} (h : ps[i]? = some p) : keyAt ps i = p.key := by simp [keyAt, h]
/-- The search, from i to j. -/
def bs (ps : List PD) (who : ByteArray) : Nat → Nat → Nat → Nat
  | 0, i, _ => i
  | f + 1, i, j => if i < j then (if ltS (keyAt ps ((i + j) / 2)) who then bs ps who f ((i + j) / 2 + 1) j else bs ps who f i ((i + j) / 2)) else i
def bsI (ps : List PD) (who : ByteArray) : Nat := bs ps who ps.length 0 ps.length
def knownB (ps : List PD) (who : ByteArray) : Bool := decide (bsI ps who < ps.length) && beqS (keyAt ps (bsI ps who)) who

theorem bs_end {ps : List PD} {who : ByteArray} {f i j : Nat} (h : ¬ i < j) : bs ps who f i j = i := by
  cases f with
  | zero => rfl
  | succ f => rw [bs, if_neg h]
theorem bs_left {ps : List PD} {who : ByteArray} {f i j : Nat} (h : i < j) (hf : j - i ≤ f) (hl : ltS (keyAt ps ((i + j) / 2)) who = true) : ∃ f', bs ps who f i j = bs ps who f' ((i + j) / 2 + 1) j ∧ j - ((i + j) / 2 + 1) ≤ f' := by
  cases f with
  | zero => omega
  | succ f => exact ⟨f, by rw [bs, if_pos h, if_pos hl], by omega⟩
theorem bs_right {ps : List PD} {who : ByteArray} {f i j : Nat} (h : i < j) (hf : j - i ≤ f) (hl : ltS (keyAt ps ((i + j) / 2)) who = false) : ∃ f', bs ps who f i j = bs ps who f' i ((i + j) / 2) ∧ (i + j) / 2 - i ≤ f' := by
  cases f with
  | zero => omega
  | succ f => exact ⟨f, by rw [bs, if_pos h, hl]; rfl, by omega⟩

/-- Keys rise. -/
def SortedP (ps : List PD) : Prop := ∀ i j, i < j → j < ps.length → ltS (keyAt ps i) (keyAt ps j) = true
theorem bs_spec {ps : List PD} (hs : SortedP ps) (who : ByteArray) : ∀ f i j, i ≤ j → j ≤ ps.length → j - i ≤ f → (∀ k, k < i → ltS (keyAt ps k) who = true) → (∀ k, j ≤ k → k < ps.length → ltS (keyAt ps k) who = false) →
    (∀ k, k < bs ps who f i j → ltS (keyAt ps k) who = true) ∧ (∀ k, bs ps who f i j ≤ k → k < ps.length → ltS (keyAt ps k) who = false) := by
  intro f
  induction f with
  | zero =>
    intro i j hij _ hf h1 h2
    have : i = j := by omega
    subst this
    exact ⟨h1, h2⟩
  | succ f ih =>
    intro i j hij hj hf h1 h2
    rw [bs]
    split
    · rename_i hlt
      split
      · rename_i hl
        refine ih _ _ (by omega) hj (by omega) (fun k hk => ?_) h2
        rcases Nat.lt_succ_iff_lt_or_eq.1 hk with h | rfl
        · exact ltS_trans (hs k _ h (by omega)) hl
        · exact hl
      · rename_i hl
        have hl' : ltS (keyAt ps ((i + j) / 2)) who = false := by simpa using hl
        refine ih _ _ (by omega) (by omega) (by omega) h1 (fun k hk hkn => ?_)
        rcases Nat.lt_or_eq_of_le hk with h | rfl
        · cases hh : ltS (keyAt ps k) who
          · rfl
          · have := ltS_trans (hs _ k h hkn) hh
            rw [hl'] at this; cases this
        · exact hl'
    · rename_i hn
      have : i = j := by omega
      subst this
      exact ⟨h1, h2⟩
theorem known_eq {ps : List PD} (hs : SortedP ps) (who : ByteArray) : knownB ps who = hasP ps who := by
  obtain ⟨h1, h2⟩ := bs_spec hs who ps.length 0 ps.length (Nat.zero_le _) (Nat.le_refl _) (by omega) (fun k hk => by omega) (fun k hk hk' => by omega)
  have h1' : ∀ k, k < bsI ps who → ltS (keyAt ps k) who = true := h1
  have h2' : ∀ k, bsI ps who ≤ k → k < ps.length → ltS (keyAt ps k) who = false := h2
  unfold knownB
  cases hh : hasP ps who
  · rw [Bool.and_eq_false_iff]
    by_cases hl : bsI ps who < ps.length
    · right
      have hp : ps[bsI ps who]? = some ps[bsI ps who] := List.getElem?_eq_getElem hl
      rw [keyAt_some hp]
      cases hb : beqS (ps[bsI ps who]).key who
      · rfl
      · rw [hasP] at hh
        rw [List.any_eq_false] at hh
        exact absurd hb (hh _ (List.getElem_mem hl))
    · left; simp; omega
  · rw [hasP, List.any_eq_true] at hh
    obtain ⟨p, hp, hb⟩ := hh
    obtain ⟨k, hk⟩ := List.getElem?_of_mem hp
    have hkl : k < ps.length := (List.getElem?_eq_some_iff.1 hk).1
    have hpk : p.key = who := beqS_iff.1 hb
    have e : keyAt ps k = who := by rw [keyAt_some hk, hpk]
    have hle : bsI ps who ≤ k := by
      rcases Nat.lt_or_ge k (bsI ps who) with h | h
      · have := h1' k h; rw [e, ltS_irrefl] at this; cases this
      · exact h
    have heq : bsI ps who = k := by
      rcases Nat.lt_or_eq_of_le hle with h | h
      · have a := hs _ k h hkl
        rw [e] at a
        have b := h2' (bsI ps who) (Nat.le_refl _) (by omega)
        rw [b] at a; cases a
      · exact h
    rw [heq, e, beqS_self]
    simp [hkl]

set_option maxRecDepth 100000 in
set_option maxHeartbeats 400000 in
theorem find1_calls (k who : ByteArray) (a b : Value) (w : World) :
    Calls Tryz.prog 242 #[.agg #[.string k, a, b], .string who] w (IntBelow (cmpS k who) w) := by
  go_enter Tryz.func242, Tryz.ntmps242
  go_wp2_with fail
  refine (strCompare_calls k who _).mono ?_
  rintro e w' ⟨rfl, rfl⟩
  rw [cmpS_eq]
  go_wp2_with fail
  go_ret
  exact ⟨rfl, below_alloc w _⟩

/-- What a search answers. -/
def Found (ps : List PD) (who : ByteArray) (w : World) (e : Ending) (w' : World) : Prop := e = .returned (.tuple #[.int .i64 (bsI ps who : Int), .bool (knownB ps who)]) ∧ Below w.heap.size w w'

set_option maxRecDepth 100000 in
set_option maxHeartbeats 1000000 in
theorem binarySearch_calls (lo : Nat) (who : ByteArray) (v : Value) (ps : List PD) (w : World) (hp : Plays w lo v ps) :
    Calls Tryz.prog 241 #[v, .string who, .func (.func 242) #[] #[]] w (Found ps who w) := by
  rcases plays_at hp with ⟨rfl, rfl⟩ | ⟨g, off, cap, rfl, _, hg, hn, hcell⟩
  · clear hp
    go_enter Tryz.func241, Tryz.ntmps241
    go_wp2
    refine wp_loop_rounds 1 ?_
    rw [rounds_succ]
    go_wp2
    go_ret2
    exact ⟨rfl, Below.refl _ _⟩
  · clear hp
    go_enter Tryz.func241, Tryz.ntmps241
    go_wp2_with fail
    go_loopw [9, 10] (fun a b wr => ∃ i j : Nat, i ≤ j ∧ j ≤ ps.length ∧ a = .int .i64 i ∧ b = .int .i64 j ∧ Below w.heap.size w wr ∧ Hid (∃ f, bsI ps who = bs ps who f i j ∧ j - i ≤ f)) (fun a b _ => (intOf b).toNat - (intOf a).toNat)
    case atStart => exact ⟨0, ps.length, by omega, by omega, rfl, rfl, Below.refl _ _, Lib.hid ⟨ps.length, rfl, by omega⟩⟩
    case round =>
      obtain ⟨i, j, hij, hj, rfl, rfl, hb, Hf⟩ := hrel
      by_cases hlt : i < j
      · have hh : (i + j) / 2 < ps.length := by omega
        obtain ⟨p, hpk⟩ : ∃ p, ps[(i + j) / 2]? = some p := ⟨_, List.getElem?_eq_getElem hh⟩
        have Hk := Lib.hid (keyAt_some hpk)
        obtain ⟨pv, h0, h1, h2, _⟩ := hcell _ p hpk
        have g0 := below_cell hb h0
        have g1 := below_cell hb h1
        have g2 := below_cell hb h2
        clear hpk h0 h1 h2 hcell
        go_wp2_with fail
        refine (find1_calls p.key who _ _ _).mono ?_
        rintro e w' ⟨rfl, hb'⟩
        have hb2 := hb.trans (hb'.mono hb.size)
        cases hl : ltS p.key who
        · have e1 : decide (cmpS p.key who < 0) = false := by rw [cmpS_neg, hl]
          have Hf' := Lib.hid (show ∃ f, bsI ps who = bs ps who f i ((i + j) / 2) ∧ (i + j) / 2 - i ≤ f by
            obtain ⟨f, h1, h2⟩ := Hf.out
            obtain ⟨f', h3, h4⟩ := bs_right hlt h2 (by rw [Hk.out]; exact hl)
            exact ⟨f', h1.trans h3, h4⟩)
          clear hl
          go_wp2_with fail
          go_roundw
          case rel => exact ⟨i, (i + j) / 2, by omega, by omega, rfl, by go_num, hb2, Hf'⟩
          case measure => simp [intOf]; omega
        · have e1 : decide (cmpS p.key who < 0) = true := by rw [cmpS_neg, hl]
          have Hf' := Lib.hid (show ∃ f, bsI ps who = bs ps who f ((i + j) / 2 + 1) j ∧ j - ((i + j) / 2 + 1) ≤ f by
            obtain ⟨f, h1, h2⟩ := Hf.out
            obtain ⟨f', h3, h4⟩ := bs_left hlt h2 (by rw [Hk.out]; exact hl)
            exact ⟨f', h1.trans h3, h4⟩)
          clear hl
          go_wp2_with fail
          go_roundw
          case rel => exact ⟨(i + j) / 2 + 1, j, by omega, by omega, by go_num, rfl, hb2, Hf'⟩
          case measure => simp [intOf]; omega
      · obtain rfl : i = j := by omega
        have HI := Lib.hid (show bsI ps who = i by
          obtain ⟨f, h1, _⟩ := Hf.out
          rw [h1, bs_end (by omega)])
        clear hlt hij
        by_cases hin : i < ps.length
        · obtain ⟨p, hpk⟩ : ∃ p, ps[i]? = some p := ⟨_, List.getElem?_eq_getElem hin⟩
          have Hk := Lib.hid (keyAt_some hpk)
          obtain ⟨pv, h0, h1, h2, _⟩ := hcell _ p hpk
          have g0 := below_cell hb h0
          have g1 := below_cell hb h1
          have g2 := below_cell hb h2
          clear hpk h0 h1 h2 hcell
          go_wp2_with fail
          refine (find1_calls p.key who _ _ _).mono ?_
          rintro e w' ⟨rfl, hb'⟩
          have hb2 := hb.trans (hb'.mono hb.size)
          have Hq := Lib.hid (show (cmpS p.key who == 0) = knownB ps who by
            unfold knownB
            rw [HI.out, Hk.out]
            simp only [hin, decide_true, Bool.true_and]
            exact cmpS_zero _ _)
          have Hq' := Lib.hid (show (cmpS p.key who == 0) = true ∨ (cmpS p.key who == 0) = false by cases (cmpS p.key who == 0) <;> simp)
          rcases Hq'.out with hq | hq
          · go_wp2_with fail
            go_ret2
            refine ⟨?_, hb2⟩
            rw [HI.out, ← Hq.out, hq]; rfl
          · go_wp2_with fail
            go_ret2
            refine ⟨?_, hb2⟩
            rw [HI.out, ← Hq.out, hq]; rfl
        · have Hq := Lib.hid (show knownB ps who = false by unfold knownB; rw [HI.out]; simp [hin])
          go_wp2_with fail
          go_ret2
          refine ⟨?_, hb⟩
          rw [HI.out, Hq.out]; rfl

set_option maxRecDepth 100000 in
set_option maxHeartbeats 400000 in
theorem find_calls (lo : Nat) (who : ByteArray) (v : Value) (ps : List PD) (w : World) (hp : Plays w lo v ps) :
    Calls Tryz.prog 178 #[v, .string who] w (Found ps who w) := by
  go_enter Tryz.func178, Tryz.ntmps178
  go_wp2_with fail
  refine (binarySearch_calls lo who v ps w hp).mono ?_
  rintro e w' ⟨rfl, hb⟩
  go_wp2_with fail
  go_ret2
  exact ⟨rfl, hb⟩
def BoolIs (b : Bool) (w : World) (e : Ending) (w' : World) : Prop := e = .returned (.bool b) ∧ Below w.heap.size w w'
set_option maxRecDepth 100000 in
set_option maxHeartbeats 400000 in
theorem known_calls (lo : Nat) (who : ByteArray) (v : Value) (ps : List PD) (w : World) (hp : Plays w lo v ps) :
    Calls Tryz.prog 83 #[v, .string who] w (BoolIs (knownB ps who) w) := by
  go_enter Tryz.func83, Tryz.ntmps83
  go_wp2_with fail
  refine (find_calls lo who v ps w hp).mono ?_
  rintro e w' ⟨rfl, hb⟩
  go_wp2_with fail
  go_ret
  exact ⟨rfl, hb⟩
end Go.Proofs.YtiedmbgdmafhaaaGreatDoor
