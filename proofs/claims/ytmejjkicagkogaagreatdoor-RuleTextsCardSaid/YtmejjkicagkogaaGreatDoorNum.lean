/- Numbers and fractions of at most fifteen digits as both sides read them: plain facts. -/
import Derived.Lib.Atoi
import Derived.Lib.AtoiBound
import Derived.Lib.ItoaNum
import Derived.Lib.Strings
import Derived.Lib.SplitLaws
namespace Go.Proofs.YtmejjkicagkogaaGreatDoor

/-- A word without a leading minus. -/
def trimL (l : List UInt8) : List UInt8 := Lib.trimPrefix l [45]
def digC (b : UInt8) : Bool := decide (48 ≤ b.toNat) && decide (b.toNat ≤ 57)
/-- The number that a word spells; none: it is none, or not written so. -/
def numV (l : List UInt8) : Option Int :=
  if 15 < (trimL l).length then none
  else match Lib.atoi l with
    | none => none
    | some n => if Lib.itoa n = l then some n else none
theorem dec_digits (u : Nat) : Lib.decDigits u ≠ [] ∧ ∀ b ∈ Lib.decDigits u, digC b = true := by
  induction u using Nat.strongRecOn with
  | ind u ih =>
    rw [Lib.decDigits]
    by_cases h : u < 10
    · rw [dif_pos h]
      refine ⟨by simp, fun b hb => ?_⟩
      rw [List.mem_singleton] at hb
      subst hb
      have e : (UInt8.ofNat (48 + u)).toNat = 48 + u := by rw [UInt8.toNat_ofNat']; omega
      unfold digC
      rw [e]
      simp; omega
    · rw [dif_neg h]
      have h1 := ih (u / 10) (by omega)
      refine ⟨by simp, fun b hb => ?_⟩
      rcases List.mem_append.1 hb with hb | hb
      · exact h1.2 b hb
      · rw [List.mem_singleton] at hb
        subst hb
        have e : (UInt8.ofNat (48 + u % 10)).toNat = 48 + u % 10 := by rw [UInt8.toNat_ofNat']; omega
        unfold digC
        rw [e]
        simp; omega
theorem trim_cons (b : UInt8) (r : List UInt8) : trimL (b :: r) = if b = 45 then r else b :: r := by
  unfold trimL Lib.trimPrefix Lib.hasPrefix
  by_cases h : b = 45
  · subst h; simp
  · rw [if_neg h, if_neg]
    simpa [List.isPrefixOf] using fun e => h e.symm
theorem trim_nil : trimL [] = [] := rfl
theorem trim_len (l : List UInt8) : l.length ≤ (trimL l).length + 1 ∧ (trimL l).length ≤ l.length := by
  cases l with
  | nil => exact ⟨Nat.zero_le _, Nat.le_refl _⟩
  | cons b r =>
    rw [trim_cons]
    split <;> simp
/-- What is written for a number: behind the minus there are digits, at least one. -/
theorem itoa_form {l : List UInt8} {n : Int} (h : Lib.itoa n = l) : trimL l ≠ [] ∧ (trimL l).all digC = true := by
  subst h
  have key : ∀ u, trimL (Lib.decDigits u) = Lib.decDigits u := by
    intro u
    obtain ⟨h1, h2⟩ := dec_digits u
    cases hd : Lib.decDigits u with
    | nil => exact absurd hd h1
    | cons b r =>
      rw [trim_cons, if_neg]
      intro e
      have h3 := h2 b (by rw [hd]; simp)
      subst e
      exact absurd h3 (by decide)
  unfold Lib.itoa
  split
  · rw [trim_cons, if_pos rfl]
    exact ⟨(dec_digits _).1, List.all_eq_true.2 (dec_digits _).2⟩
  · rw [key]
    exact ⟨(dec_digits _).1, List.all_eq_true.2 (dec_digits _).2⟩
theorem numV_form {l : List UInt8} {n : Int} (h : numV l = some n) : trimL l ≠ [] ∧ (trimL l).all digC = true ∧ (trimL l).length ≤ 15 ∧ Lib.itoa n = l ∧ Lib.atoi l = some n := by
  unfold numV at h
  by_cases hl : 15 < (trimL l).length
  · rw [if_pos hl] at h; cases h
  · rw [if_neg hl] at h
    cases ha : Lib.atoi l with
    | none => rw [ha] at h; cases h
    | some m =>
      rw [ha] at h
      simp only at h
      split at h
      · rename_i he
        cases h
        have := itoa_form he
        exact ⟨this.1, this.2, by omega, he, rfl⟩
      · cases h
theorem decFrom_digits : ∀ (l : List UInt8) (acc : Nat), l.all digC = true → ∃ n, Lib.decFrom acc l = some n
  | [], acc, _ => ⟨acc, rfl⟩
  | b :: r, acc, h => by
    rw [List.all_cons, Bool.and_eq_true] at h
    obtain ⟨h1, h2⟩ := h
    unfold digC at h1
    rw [Bool.and_eq_true, decide_eq_true_eq, decide_eq_true_eq] at h1
    have hd : Lib.digitVal b = some (b.toNat - 48) := by unfold Lib.digitVal; rw [if_pos h1]
    unfold Lib.decFrom
    rw [hd]
    exact decFrom_digits r _ h2
/-- Digits behind a minus, or alone, spell a number. -/
theorem atoi_digits {l : List UInt8} (h0 : trimL l ≠ []) (h : (trimL l).all digC = true) : ∃ n, Lib.atoi l = some n := by
  cases l with
  | nil => exact absurd rfl h0
  | cons b r =>
    rw [trim_cons] at h0 h
    by_cases hb : b = 45
    · rw [if_pos hb] at h0 h
      subst hb
      obtain ⟨n, hn⟩ := decFrom_digits r 0 h
      exact ⟨-(n : Int), by simp [Lib.atoi, Lib.decNat, hn, h0]⟩
    · rw [if_neg hb] at h0 h
      obtain ⟨n, hn⟩ := decFrom_digits (b :: r) 0 h
      have h43 : b ≠ 43 := by
        intro e
        subst e
        rw [List.all_cons, Bool.and_eq_true] at h
        exact absurd h.1 (by decide)
      exact ⟨(n : Int), by simp [Lib.atoi, Lib.decNat, hn, hb, h43]⟩
/-- The other side's word: whether it is a number, and which. -/
def numOk (l : List UInt8) : Bool := !(trimL l).isEmpty && decide ((trimL l).length ≤ 15) && (trimL l).all digC
theorem numV_bad {l : List UInt8} (h : numOk l = false) : numV l = none := by
  cases hn : numV l with
  | none => rfl
  | some n =>
    obtain ⟨h1, h2, h3, -, -⟩ := numV_form hn
    have e : (trimL l).isEmpty = false := by cases ht : trimL l with
      | nil => exact absurd ht h1
      | cons _ _ => rfl
    unfold numOk at h
    rw [e, h2, decide_eq_true h3] at h
    cases h
theorem numV_ok {l : List UInt8} (h : numOk l = true) : ∃ n, Lib.atoi l = some n ∧ numV l = if Lib.itoa n = l then some n else none := by
  unfold numOk at h
  simp only [Bool.and_eq_true, decide_eq_true_eq] at h
  obtain ⟨⟨h1, h2⟩, h3⟩ := h
  obtain ⟨n, hn⟩ := atoi_digits (by intro e; rw [e] at h1; cases h1) h3
  refine ⟨n, hn, ?_⟩
  unfold numV
  rw [if_neg (by omega), hn]
theorem num_len {l : List UInt8} (h : ¬ 15 < (trimL l).length) : l.length ≤ 16 := by
  have := (trim_len l).1; omega
theorem atoi_small {l : List UInt8} {n : Int} (h : ¬ 15 < (trimL l).length) (ha : Lib.atoi l = some n) : -1000000000000000000 < n ∧ n < 1000000000000000000 :=
  Lib.atoi_bound ha (by have := num_len h; omega)
theorem numV_small {l : List UInt8} {n : Int} (h : numV l = some n) : -1000000000000000000 < n ∧ n < 1000000000000000000 := by
  obtain ⟨h1, h2, h3, -, h5⟩ := numV_form h
  exact atoi_small (by omega) h5
theorem numV_nil : numV [] = none := rfl
/-- No slash in a number. -/
theorem numV_slash {l : List UInt8} (h : (47 : UInt8) ∈ l) : numV l = none := by
  cases hn : numV l with
  | none => rfl
  | some n =>
    obtain ⟨h1, h2, -, -, -⟩ := numV_form hn
    cases l with
    | nil => cases h
    | cons b r =>
      rw [trim_cons] at h2
      rw [List.all_eq_true] at h2
      by_cases hb : b = 45
      · rw [if_pos hb] at h2
        rcases List.mem_cons.1 h with e | h
        · subst e; exact absurd hb (by decide)
        · exact absurd (h2 _ h) (by decide)
      · rw [if_neg hb] at h2
        exact absurd (h2 _ h) (by decide)
/-- A word cut at its first slash, and cut at all of them. -/
def cutF (l : List UInt8) : List UInt8 × List UInt8 := ((Lib.cut l [47]).1, (Lib.cut l [47]).2.1)
def splitF (l : List UInt8) : List (List UInt8) := Lib.split l [47]
theorem index_slash (l : List UInt8) : (Lib.index l [47] = -1 ∧ (47 : UInt8) ∉ l) ∨ ∃ i : Nat, Lib.index l [47] = i ∧ i < l.length ∧ l = l.take i ++ 47 :: l.drop (i + 1) := by
  induction l with
  | nil => left; exact ⟨rfl, by simp⟩
  | cons b r ih =>
    unfold Lib.index
    by_cases hb : b = 47
    · right
      subst hb
      exact ⟨0, by simp, by simp, by simp⟩
    · have hp : ([47] : List UInt8).isPrefixOf (b :: r) = false := by simpa [List.isPrefixOf] using fun e => hb e.symm
      rw [hp]
      rcases ih with ⟨h1, h2⟩ | ⟨i, h1, h2, h3⟩
      · left
        rw [h1]
        exact ⟨by rfl, by simp [h2, Ne.symm hb]⟩
      · right
        refine ⟨i + 1, ?_, by simp; omega, ?_⟩
        · rw [h1]
          have : ((i : Int) == -1) = false := by rw [beq_eq_false_iff_ne]; omega
          rw [if_neg (by simp), this]
          simp
        · simp only [List.take_succ_cons, List.cons_append, List.drop_succ_cons]
          rw [← h3]
/-- The two numbers of a fraction. -/
def fracV (l : List UInt8) : Option (Int × Int) :=
  match numV (cutF l).1, numV (cutF l).2 with
  | some a, some b => some (a, b)
  | _, _ => none
theorem split_two (l : List UInt8) : (∃ a b, splitF l = [a, b] ∧ cutF l = (a, b)) ∨ ((splitF l).length ≠ 2 ∧ fracV l = none) := by
  unfold splitF Lib.split
  rw [Lib.count_one]
  rcases index_slash l with ⟨h1, h2⟩ | ⟨i, h1, h2, h3⟩
  · right
    rw [List.count_eq_zero_of_not_mem h2]
    refine ⟨by simp [Lib.splitK], ?_⟩
    have e : cutF l = (l, []) := by unfold cutF Lib.cut; rw [if_neg (by rw [h1]; decide)]
    unfold fracV
    rw [e]
    simp only [numV_nil]
    cases numV l <;> rfl
  · have e : cutF l = (l.take i, l.drop (i + 1)) := by
      unfold cutF Lib.cut
      rw [if_pos (by rw [h1]; omega), h1]; rfl
    have hc : l.count 47 = (l.take i).count 47 + (1 + (l.drop (i + 1)).count 47) := by
      conv => lhs; rw [h3]
      rw [List.count_append, List.count_cons]
      simp; omega
    have hk : ∀ k, Lib.splitK [47] 0 (k + 1) l = l.take i :: Lib.splitK [47] 0 k (l.drop (i + 1)) := by
      intro k
      rw [Lib.splitK, if_neg (by rw [h1]; simp [beq_iff_eq]), h1]
      simp
    have hpos : ∃ k, l.count 47 = k + 1 ∧ (l.drop (i + 1)).count 47 ≤ k := ⟨l.count 47 - 1, by omega, by omega⟩
    obtain ⟨k, hk1, hk2⟩ := hpos
    rw [hk1, hk]
    by_cases hm : (47 : UInt8) ∈ l.drop (i + 1)
    · right
      have hp := List.count_pos_iff.2 hm
      refine ⟨?_, ?_⟩
      · obtain ⟨k', rfl⟩ : ∃ k', k = k' + 1 := ⟨k - 1, by omega⟩
        rcases index_slash (l.drop (i + 1)) with ⟨_, h⟩ | ⟨j, g1, g2, g3⟩
        · exact absurd hm h
        · rw [Lib.splitK, if_neg (by rw [g1]; simp [beq_iff_eq])]
          cases k' <;> simp [Lib.splitK]
          split <;> simp
      · unfold fracV
        rw [e]
        simp only [numV_slash hm]
        cases numV (l.take i) <;> rfl
    · left
      refine ⟨l.take i, l.drop (i + 1), ?_, e⟩
      rcases index_slash (l.drop (i + 1)) with ⟨g1, _⟩ | ⟨j, g1, g2, g3⟩
      · cases k with
        | zero => rfl
        | succ k => rw [Lib.splitK, if_pos (by rw [g1]; rfl)]
      · exfalso
        apply hm
        rw [g3]
        simp
end Go.Proofs.YtmejjkicagkogaaGreatDoor
