/- Plain facts: the program's and the reference's answers on one are one. -/
import Derived.Test.YtiedmbgdmafhaaaGreatDoorPure
namespace Go.Proofs.YtiedmbgdmafhaaaGreatDoor
open Go.RowKit

theorem firstE_all {xs : List Int} (h : firstE xs = 0) : ∀ x ∈ xs, x = 0 := by
  induction xs with
  | nil => intro x hx; cases hx
  | cons y ys ih =>
    rw [firstE] at h
    intro x hx
    by_cases hy : y = 0
    · rw [if_pos hy] at h
      rcases List.mem_cons.1 hx with rfl | hx
      · exact hy
      · exact ih h x hx
    · rw [if_neg hy] at h; exact absurd h hy
theorem errsTo_all {f : Nat → Int} {n : Nat} (h : errsTo f n = 0) : ∀ i, i < n → f i = 0 := fun i hi =>
  firstE_all h _ (List.mem_map.2 ⟨i, List.mem_range.2 hi, rfl⟩)
theorem eachE_all {n : Nat} {most : Int} {f : Nat → Int} (h : eachE n most f = 0) : ∀ i, i < n → f i = 0 := by
  unfold eachE at h
  split at h
  · cases h
  · exact errsTo_all (by simpa using h)
theorem errsTo_congr {f g : Nat → Int} {n : Nat} (h : ∀ i, i < n → f i = g i) : errsTo f n = errsTo g n := by
  unfold errsTo
  congr 1
  exact List.map_congr_left fun i hi => h i (List.mem_range.1 hi)
theorem eachE_congr {n : Nat} {most : Int} {f g : Nat → Int} (h : ∀ i, i < n → f i = g i) : eachE n most f = eachE n most g := by
  unfold eachE
  split
  · rfl
  · exact errsTo_congr (by simpa using h)

theorem plF_rise {ps : List PD} {i : Nat} (h : plF ps i = 0) (hi : i ≠ 0) : ltS (plAt ps (i - 1)).key (plAt ps i).key = true := by
  have := firstE_all h (unlessE (decide (i = 0) || ltS (plAt ps (i - 1)).key (plAt ps i).key) 7) (by simp)
  rw [decide_eq_false hi, Bool.false_or] at this
  cases hl : ltS (plAt ps (i - 1)).key (plAt ps i).key
  · rw [hl] at this; cases this
  · rfl
theorem keyAt_plAt (ps : List PD) (i : Nat) (hi : i < ps.length) : keyAt ps i = (plAt ps i).key := by
  rw [keyAt_some (List.getElem?_eq_getElem hi), plAt_some (List.getElem?_eq_getElem hi)]
theorem sorted_of {ps : List PD} (h : chkPs ps = 0) : SortedP ps := by
  have h0 := eachE_all h
  intro i j hij
  induction j with
  | zero => omega
  | succ j ih =>
    intro hj
    have hs : ltS (keyAt ps j) (keyAt ps (j + 1)) = true := by
      rw [keyAt_plAt _ _ (by omega), keyAt_plAt _ _ hj]
      exact plF_rise (h0 (j + 1) hj) (by omega)
    rcases Nat.lt_or_eq_of_le (Nat.lt_succ_iff.1 hij) with h1 | rfl
    · exact ltS_trans (ih h1 (by omega)) hs
    · exact hs
theorem known_hasP {ps : List PD} (h : chkPs ps = 0) (who : ByteArray) : knownB ps who = hasP ps who := known_eq (sorted_of h) who
theorem stF_stH {ps : List PD} (ss : List SD) (h : chkPs ps = 0) (i : Nat) : stF ps ss i = stH ps ss i := by
  unfold stF stH; rw [known_hasP h]
/-- The reference finds what the program finds in players and stints. -/
theorem chkSt_eq (ps : List PD) (ss : List SD) : chkSt ps ss = firstE [chkPs ps, refSt ps ss] := by
  unfold chkSt refSt
  by_cases h : chkPs ps = 0
  · rw [eachE_congr fun i _ => stF_stH ss h i]
  · simp only [firstE]; rw [if_neg h, if_neg h]
theorem chkSt_players {ps : List PD} {ss : List SD} (h : chkSt ps ss = 0) : chkPs ps = 0 := firstE_all h _ (by simp)
theorem clubE_eq (ps : List PD) (ss : List SD) (who : ByteArray) (week : Int) : clubE ps ss who week = firstE [firstE [chkPs ps, refSt ps ss], unlessE (hasP ps who) 8, unlessE (betwB week 1 60) 1] := by
  unfold clubE
  rw [← chkSt_eq]
  by_cases h : chkSt ps ss = 0
  · rw [known_hasP (chkSt_players h)]
  · simp only [firstE]; rw [if_neg h, if_neg h]
theorem squadE_eq (ps : List PD) (ss : List SD) (club : ByteArray) (week : Int) : squadE ps ss club week = firstE [firstE [chkPs ps, refSt ps ss], unlessE (keyB club) 5, unlessE (betwB week 1 60) 1] := by
  unfold squadE; rw [← chkSt_eq]

/-- Is a stint before another one? -/
def ltD (a b : SD) : Prop := ltS a.player b.player = true ∨ (a.player = b.player ∧ a.week < b.week)
theorem cmpSt_neg (a b : SD) : cmpSt a b < 0 ↔ ltD a b := by
  unfold ltD
  cases h : ltS a.player b.player
  · cases he : beqS b.player a.player
    · constructor
      · intro h'
        cases h2 : ltS b.player a.player
        · have := ltS_or h2 he; rw [h] at this; cases this
        · exact absurd h' (cmpSt_lt h2)
      · rintro (h' | ⟨h', _⟩)
        · cases h'
        · rw [h', beqS_self] at he; cases he
    · rw [cmpSt_wk he]
      exact ⟨fun h' => .inr ⟨(beqS_iff.1 he).symm, h'⟩, fun h' => h'.elim (fun x => by cases x) (·.2)⟩
  · have h2 : ltS b.player a.player = false := ltS_asymm h
    have he : beqS b.player a.player = false := by
      cases hh : beqS b.player a.player
      · rfl
      · have := beqS_iff.1 hh; rw [this, ltS_irrefl] at h; cases h
    exact ⟨fun _ => .inl rfl, fun _ => cmpSt_gt h2 he⟩
theorem cmpInt_flip (x y : Int) : Lib.compareInt x y = - Lib.compareInt y x := by
  unfold Lib.compareInt
  by_cases h1 : x < y
  · rw [if_pos h1, if_neg (by omega), if_pos (by omega)]
  · by_cases h2 : x > y
    · rw [if_neg h1, if_pos h2, if_pos (by omega)]; rfl
    · rw [if_neg h1, if_neg h2, if_neg (by omega), if_neg (by omega)]; rfl
theorem cmpS_flip (a b : ByteArray) : cmpS a b = - cmpS b a := by
  unfold cmpS
  cases h1 : ltS a b
  · cases he : beqS a b
    · have h2 := ltS_or h1 he
      rw [h2]; rfl
    · have e := beqS_iff.1 he
      subst e
      rw [h1, beqS_self]; rfl
  · rw [ltS_asymm h1]
    have he : beqS b a = false := by
      cases hh : beqS b a
      · rfl
      · have := beqS_iff.1 hh; rw [this, ltS_irrefl] at h1; cases h1
    rw [he]; rfl
theorem cmpSt_flip (a b : SD) : cmpSt a b = - cmpSt b a := by
  unfold cmpSt
  rw [cmpS_flip a.player b.player, cmpInt_flip a.week b.week]
  simp only [firstE]
  by_cases h : cmpS b.player a.player = 0
  · rw [h]
    by_cases h2 : Lib.compareInt b.week a.week = 0
    · rw [h2]; rfl
    · simp [h2]
  · simp [h]
theorem cmpSt_pos (a b : SD) : 0 < cmpSt a b ↔ ltD b a := by
  rw [← cmpSt_neg, cmpSt_flip a b]; omega
theorem ltD_trans {a b c : SD} (h1 : ltD a b) (h2 : ltD b c) : ltD a c := by
  rcases h1 with h1 | ⟨e1, h1⟩
  · rcases h2 with h2 | ⟨e2, h2⟩
    · exact .inl (ltS_trans h1 h2)
    · exact .inl (by rw [← e2]; exact h1)
  · rcases h2 with h2 | ⟨e2, h2⟩
    · exact .inl (by rw [e1]; exact h2)
    · exact .inr ⟨e1.trans e2, by omega⟩
theorem ltD_irrefl (a : SD) : ¬ ltD a a := by
  rintro (h | ⟨_, h⟩)
  · rw [ltS_irrefl] at h; cases h
  · omega
def SortedS (ss : List SD) : Prop := ∀ i j, i < j → j < ss.length → ltD (stAt ss i) (stAt ss j)
theorem stF_rise {ps : List PD} {ss : List SD} {i : Nat} (h : stF ps ss i = 0) (hi : i ≠ 0) : ltD (stAt ss (i - 1)) (stAt ss i) := by
  have := firstE_all h (unlessE (decide (i = 0) || decide (cmpSt (stAt ss (i - 1)) (stAt ss i) < 0)) 7) (by simp)
  rw [decide_eq_false hi, Bool.false_or] at this
  rw [← cmpSt_neg]
  by_cases hl : cmpSt (stAt ss (i - 1)) (stAt ss i) < 0
  · exact hl
  · rw [decide_eq_false hl] at this; cases this
theorem stF_wk {ps : List PD} {ss : List SD} {i : Nat} (h : stF ps ss i = 0) : 1 ≤ (stAt ss i).week ∧ (stAt ss i).week ≤ 60 := by
  have := firstE_all h (unlessE (betwB (stAt ss i).week 1 60) 1) (by simp)
  cases hb : betwB (stAt ss i).week 1 60
  · rw [hb] at this; cases this
  · unfold betwB at hb; simpa using hb
theorem chkSt_each {ps : List PD} {ss : List SD} (h : chkSt ps ss = 0) : ∀ i, i < ss.length → stF ps ss i = 0 :=
  eachE_all (firstE_all h (eachE ss.length 1000 (stF ps ss)) (by simp))
theorem sortedS_of {ps : List PD} {ss : List SD} (h : chkSt ps ss = 0) : SortedS ss := by
  have h0 := chkSt_each h
  intro i j hij
  induction j with
  | zero => omega
  | succ j ih =>
    intro hj
    have hs : ltD (stAt ss j) (stAt ss (j + 1)) := stF_rise (h0 (j + 1) hj) (by omega)
    rcases Nat.lt_or_eq_of_le (Nat.lt_succ_iff.1 hij) with h1 | rfl
    · exact ltD_trans (ih h1 (by omega)) hs
    · exact hs

/-- c is the club of who after n weeks. -/
def Best (ss : List SD) (who : ByteArray) (n : Int) (c : ByteArray) : Prop :=
  (c = ⟨#[]⟩ ∧ ∀ i, i < ss.length → (stAt ss i).player = who → ¬ (stAt ss i).week ≤ n) ∨
  ∃ i, i < ss.length ∧ (stAt ss i).player = who ∧ (stAt ss i).week ≤ n ∧ c = (stAt ss i).club ∧ ∀ j, j < ss.length → (stAt ss j).player = who → (stAt ss j).week ≤ n → (stAt ss j).week ≤ (stAt ss i).week
theorem sorted_one {ss : List SD} (hs : SortedS ss) {i j : Nat} (hi : i < ss.length) (hj : j < ss.length) (hp : (stAt ss i).player = (stAt ss j).player) (hw : (stAt ss i).week = (stAt ss j).week) : i = j := by
  rcases Nat.lt_trichotomy i j with h | h | h
  · rcases hs i j h hj with h' | ⟨_, h'⟩
    · rw [hp, ltS_irrefl] at h'; cases h'
    · omega
  · exact h
  · rcases hs j i h hi with h' | ⟨_, h'⟩
    · rw [hp, ltS_irrefl] at h'; cases h'
    · omega
theorem Best.one {ss : List SD} {who : ByteArray} {n : Int} {c d : ByteArray} (hs : SortedS ss) (h1 : Best ss who n c) (h2 : Best ss who n d) : c = d := by
  rcases h1 with ⟨rfl, h1⟩ | ⟨i, hi, pi, wi, rfl, mi⟩
  · rcases h2 with ⟨rfl, _⟩ | ⟨j, hj, pj, wj, _, _⟩
    · rfl
    · exact absurd wj (h1 j hj pj)
  · rcases h2 with ⟨_, h2⟩ | ⟨j, hj, pj, wj, rfl, mj⟩
    · exact absurd wi (h2 i hi pi)
    · have e := sorted_one hs hi hj (pi.trans pj.symm) (Int.le_antisymm (mj i hi pi wi) (mi j hj pj wj))
      rw [e]

theorem innerC_cases (who : ByteArray) (wk : Int) (c : ByteArray) (ss : List SD) :
    (innerC who wk c ss = c ∧ ∀ s ∈ ss, s.player = who → s.week ≠ wk) ∨ ∃ s ∈ ss, s.player = who ∧ s.week = wk ∧ innerC who wk c ss = s.club := by
  unfold innerC
  induction ss generalizing c with
  | nil => exact .inl ⟨rfl, fun _ h => by cases h⟩
  | cons s ss ih =>
    simp only [List.foldl_cons]
    rcases ih (if beqS s.player who && (s.week == wk) then s.club else c) with ⟨h1, h2⟩ | ⟨t, ht, h⟩
    · rw [h1]
      by_cases hm : beqS s.player who && (s.week == wk)
      · rw [if_pos hm]
        rw [Bool.and_eq_true, beq_iff_eq] at hm
        exact .inr ⟨s, List.mem_cons_self, beqS_iff.1 hm.1, hm.2, rfl⟩
      · rw [if_neg hm]
        refine .inl ⟨rfl, fun t ht => ?_⟩
        rcases List.mem_cons.1 ht with rfl | ht
        · intro hp hw
          apply hm
          rw [hp, hw, beqS_self]; simp
        · exact h2 t ht
    · exact .inr ⟨t, List.mem_cons_of_mem _ ht, h⟩
theorem mem_stAt {ss : List SD} {s : SD} (h : s ∈ ss) : ∃ i, i < ss.length ∧ stAt ss i = s := by
  obtain ⟨i, hi⟩ := List.getElem?_of_mem h
  exact ⟨i, (List.getElem?_eq_some_iff.1 hi).1, stAt_some hi⟩
theorem stAt_mem {ss : List SD} {i : Nat} (h : i < ss.length) : stAt ss i ∈ ss := by
  rw [stAt_some (List.getElem?_eq_getElem h)]; exact List.getElem_mem h
theorem clubN_best {ss : List SD} (hw : ∀ i, i < ss.length → 1 ≤ (stAt ss i).week) (who : ByteArray) : ∀ n : Nat, Best ss who n (clubN ss who n)
  | 0 => .inl ⟨rfl, fun i hi _ h => by have := hw i hi; omega⟩
  | n + 1 => by
    have ih := clubN_best hw who n
    rw [clubN]
    rcases innerC_cases who ((n : Int) + 1) (clubN ss who n) ss with ⟨h1, h2⟩ | ⟨s, hs, hp, hk, h⟩
    · rw [h1]
      have up : ∀ i, i < ss.length → (stAt ss i).player = who → (stAt ss i).week ≤ ((n + 1 : Nat) : Int) → (stAt ss i).week ≤ (n : Int) := fun i hi hp hk => by
        have := h2 _ (stAt_mem hi) hp
        omega
      rcases ih with ⟨e, h0⟩ | ⟨i, hi, pi, wi, e, mi⟩
      · exact .inl ⟨e, fun i hi hp hk => h0 i hi hp (up i hi hp hk)⟩
      · exact .inr ⟨i, hi, pi, by omega, e, fun j hj pj wj => mi j hj pj (up j hj pj wj)⟩
    · rw [h]
      obtain ⟨i, hi, rfl⟩ := mem_stAt hs
      exact .inr ⟨i, hi, hp, by omega, rfl, fun j hj pj wj => by omega⟩
theorem clubB_best {ss : List SD} (hs : SortedS ss) (who : ByteArray) (week : Int) : Best ss who week (clubB ss who week) := by
  have hmono : ∀ i j, i < j → j < ss.length → decide (0 < cmpSt (stAt ss i) (askS who week)) = true → decide (0 < cmpSt (stAt ss j) (askS who week)) = true := fun i j hij hj h => by
    rw [decide_eq_true_eq, cmpSt_pos] at h ⊢
    exact ltD_trans h (hs i j hij hj)
  obtain ⟨hlo, hhi⟩ := sr_spec hmono ss.length 0 ss.length (Nat.zero_le _) (Nat.le_refl _) (by omega) (fun k hk => by omega) (fun k hk hkn => by omega)
  have hle : clubK ss who week ≤ ss.length := srI_le _ _
  have hlo' : ∀ k, k < clubK ss who week → ¬ ltD (askS who week) (stAt ss k) := fun k hk h => by
    have := hlo k hk
    rw [decide_eq_false_iff_not, cmpSt_pos] at this
    exact this h
  have hhi' : ∀ k, clubK ss who week ≤ k → k < ss.length → ltD (askS who week) (stAt ss k) := fun k hk hkn => by
    have := hhi k hk hkn
    rw [decide_eq_true_eq, cmpSt_pos] at this
    exact this
  clear hlo hhi
  have below : ∀ k, k < ss.length → (stAt ss k).player = who → (stAt ss k).week ≤ week → k < clubK ss who week := fun k hk hp hw => by
    rcases Nat.lt_or_ge k (clubK ss who week) with h | h
    · exact h
    · rcases hhi' k h hk with h' | ⟨_, h'⟩
      · rw [show (askS who week).player = who from rfl, hp, ltS_irrefl] at h'; cases h'
      · rw [show (askS who week).week = week from rfl] at h'; omega
  unfold clubB
  by_cases hk : clubK ss who week = 0
  · rw [if_pos hk]
    exact .inl ⟨rfl, fun i hi hp hw => by have := below i hi hp hw; omega⟩
  · rw [if_neg hk]
    have hK : clubK ss who week - 1 < ss.length := by omega
    have hno := hlo' (clubK ss who week - 1) (by omega)
    cases hq : beqS (stAt ss (clubK ss who week - 1)).player who
    · rw [if_neg (by simp)]
      refine .inl ⟨rfl, fun i hi hp hw => ?_⟩
      have hb := below i hi hp hw
      rcases Nat.lt_or_eq_of_le (show i ≤ clubK ss who week - 1 by omega) with h | rfl
      · rcases hs i _ h hK with h' | ⟨h', _⟩
        · apply hno
          left
          rw [hp] at h'
          exact h'
        · rw [← h', hp, beqS_self] at hq; cases hq
      · rw [hp, beqS_self] at hq; cases hq
    · rw [if_pos rfl]
      have hp := beqS_iff.1 hq
      refine .inr ⟨_, hK, hp, ?_, rfl, fun j hj pj wj => ?_⟩
      · rcases Int.lt_or_le week (stAt ss (clubK ss who week - 1)).week with h | h
        · exact absurd (.inr ⟨hp.symm, h⟩) hno
        · exact h
      · have hb := below j hj pj wj
        rcases Nat.lt_or_eq_of_le (show j ≤ clubK ss who week - 1 by omega) with h | rfl
        · rcases hs j _ h hK with h' | ⟨_, h'⟩
          · rw [pj, hp, ltS_irrefl] at h'; cases h'
          · omega
        · exact Int.le_refl _
/-- The club that the program finds is the one that the reference finds. -/
theorem clubB_eq {ps : List PD} {ss : List SD} (h : chkSt ps ss = 0) (who : ByteArray) (m : Nat) : clubB ss who m = clubN ss who m :=
  (clubB_best (sortedS_of h) who m).one (sortedS_of h) (clubN_best (fun i hi => (stF_wk (chkSt_each h i hi)).1) who m)
end Go.Proofs.YtiedmbgdmafhaaaGreatDoor
