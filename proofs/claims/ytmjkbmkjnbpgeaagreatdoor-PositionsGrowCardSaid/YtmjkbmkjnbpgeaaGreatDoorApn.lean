/- Plain facts: what players grow by is told by their appearances, counted. -/
import Derived.Test.YtmjkbmkjnbpgeaaGreatDoorApm
import Derived.Test.YtmjkbmkjnbpgeaaGreatDoorApd
import Derived.Test.YtmjkbmkjnbpgeaaGreatDoorApf
import Derived.Test.YtmjkbmkjnbpgeaaGreatDoorFd
import Derived.Test.YtmjkbmkjnbpgeaaGreatDoorBk
namespace Go.Proofs.YtmjkbmkjnbpgeaaGreatDoor
open Go.RowKit

/-- A row of strings that rise. -/
def StrictS (ks : List ByteArray) : Prop := ks.Pairwise fun a b => ltS a b = true
theorem bl_lt : ∀ a b : List UInt8, Op.bytesLess a b = true ↔ a < b
  | [], [] => by simp [Op.bytesLess]
  | [], _ :: _ => by simp [Op.bytesLess]
  | _ :: _, [] => by simp [Op.bytesLess]
  | a :: x, b :: y => by
    rw [List.cons_lt_cons_iff, ← bl_lt x y]
    simp only [Op.bytesLess, Bool.or_eq_true, decide_eq_true_eq, Bool.and_eq_true, beq_iff_eq]
theorem ltS_iff (a b : ByteArray) : ltS a b = true ↔ toL a < toL b := by
  unfold ltS toL
  rw [bl_lt, ByteArray.toList_eq, ByteArray.toList_eq]
theorem strictS_ext {a b : List ByteArray} (ha : StrictS a) (hb : StrictS b) (h : ∀ x, x ∈ a ↔ x ∈ b) : a = b := by
  have f : ∀ l : List ByteArray, StrictS l → (l.map toL).Pairwise (· < ·) := fun l hl => by
    rw [List.pairwise_map]
    exact hl.imp fun h => (ltS_iff _ _).1 h
  have := strict_ext (f a ha) (f b hb) fun x => by
    simp only [List.mem_map, h]
  rw [← map_ofL_toL a, this, map_ofL_toL]
theorem cs_strictS (ks : List ByteArray) : StrictS (compactL (sortL ks)) := by
  unfold compactL StrictS
  rw [List.pairwise_map, sortL_toL]
  refine (compact_strict (sorted_merge _)).imp fun {a b} h => ?_
  rw [ltS_iff, toL_ofL, toL_ofL]
  exact h
theorem mem_csL {ks : List ByteArray} {k : ByteArray} : k ∈ compactL (sortL ks) ↔ k ∈ ks := mem_compactL.trans mem_sortL
theorem strictS_sorted {ks : List ByteArray} (h : StrictS ks) : SortedP (asP ks) := by
  intro i j hij hj
  rw [asP_length] at hj
  rw [asP_some (List.getElem?_eq_getElem (show i < ks.length by omega)), asP_some (List.getElem?_eq_getElem hj)]
  exact List.pairwise_iff_getElem.1 h i j (by omega) hj hij
theorem hasP_asP (ks : List ByteArray) (x : ByteArray) : hasP (asP ks) x = true ↔ x ∈ ks := by
  unfold hasP asP
  rw [List.any_eq_true]
  constructor
  · rintro ⟨p, hp, h⟩
    obtain ⟨k, hk, rfl⟩ := List.mem_map.1 hp
    rw [← beqS_iff.1 h]; exact hk
  · intro h
    exact ⟨_, List.mem_map.2 ⟨x, h, rfl⟩, beqS_self x⟩
theorem mem_insL {ks : List ByteArray} {i : Nat} {x y : ByteArray} : y ∈ insL ks i x ↔ y ∈ ks ∨ y = x := by
  unfold insL
  rw [List.mem_append, List.mem_cons]
  constructor
  · rintro (h | rfl | h)
    · exact .inl (List.mem_of_mem_take h)
    · exact .inr rfl
    · exact .inl (List.mem_of_mem_drop h)
  · rintro (h | h)
    · rw [← List.take_append_drop i ks, List.mem_append] at h
      rcases h with h | h
      · exact .inl h
      · exact .inr (.inr h)
    · exact .inr (.inl h)
theorem gainL_spec {ks : List ByteArray} (h : StrictS ks) (x : ByteArray) : StrictS (gainL ks x) ∧ ∀ y, y ∈ gainL ks x ↔ y ∈ ks ∨ y = x := by
  have hs := strictS_sorted h
  have hk := known_eq hs x
  unfold gainL
  unfold isS
  rw [hk]
  split
  · rename_i hi
    have hx := (hasP_asP ks x).1 hi
    exact ⟨h, fun y => ⟨.inl, fun h' => h'.elim id fun e => e ▸ hx⟩⟩
  · rename_i hi
    have hx : x ∉ ks := fun h' => hi ((hasP_asP ks x).2 h')
    refine ⟨?_, fun y => mem_insL⟩
    obtain ⟨h1, h2⟩ := bs_spec hs x (asP ks).length 0 (asP ks).length (Nat.zero_le _) (Nat.le_refl _) (by omega) (fun k hk => by omega) (fun k hk hk' => by omega)
    have h2 : ∀ k, binS ks x ≤ k → k < ks.length → ltS (keyAt (asP ks) k) x = false := fun k a b => h2 k a (by rw [asP_length]; exact b)
    have b1 : ∀ y ∈ ks.take (binS ks x), ltS y x = true := fun y hy => by
      obtain ⟨j, hj, e⟩ := List.mem_iff_getElem.1 hy
      rw [List.length_take] at hj
      have := h1 j (show j < binS ks x by omega)
      rw [asP_some (List.getElem?_eq_getElem (show j < ks.length by omega))] at this
      rw [← e, List.getElem_take]
      exact this
    have b2 : ∀ y ∈ ks.drop (binS ks x), ltS x y = true := fun y hy => by
      obtain ⟨j, hj, e⟩ := List.mem_iff_getElem.1 hy
      rw [List.length_drop] at hj
      have := h2 (binS ks x + j) (Nat.le_add_right _ _) (by omega)
      rw [asP_some (List.getElem?_eq_getElem (show binS ks x + j < ks.length by omega))] at this
      rw [List.getElem_drop] at e
      rw [e] at this
      refine ltS_or this ?_
      cases hb : beqS y x
      · rfl
      · exact absurd (List.mem_of_mem_drop hy) (by rw [beqS_iff.1 hb]; exact hx)
    unfold insL StrictS
    rw [List.pairwise_append]
    refine ⟨h.take, List.pairwise_cons.2 ⟨b2, h.drop⟩, fun a ha b hb => ?_⟩
    rcases List.mem_cons.1 hb with rfl | hb
    · exact b1 a ha
    · exact ltS_trans (b1 a ha) (b2 b hb)

/-- A run of L places that a convex choice takes whole is there if it takes L places. -/
theorem count_prefix {α : Type} (P : α → Bool) : ∀ (l : List α), (∀ (i k : Nat) (x y : α), i < k → l[i]? = some x → l[k]? = some y → P y = true → P x = true) → ∀ (m : Nat), m < l.countP P ↔ ∃ x, l[m]? = some x ∧ P x = true
  | [], _, m => by simp
  | a :: l, h, m => by
    cases ha : P a
    · have hz : l.countP P = 0 := by
        rw [List.countP_eq_zero]
        intro y hy
        obtain ⟨k, hk⟩ := List.getElem?_of_mem hy
        cases hP : P y
        · simp
        · have := h 0 (k + 1) a y (by omega) rfl hk hP
          rw [ha] at this; cases this
      rw [List.countP_cons, hz, ha]
      constructor
      · intro h'; simp at h'
      · rintro ⟨x, hx, hP⟩
        cases m with
        | zero => simp at hx; subst hx; rw [ha] at hP; cases hP
        | succ m =>
          have := List.countP_eq_zero.1 hz x (List.mem_of_getElem? hx)
          exact absurd hP this
    · rw [List.countP_cons, ha, if_pos rfl]
      cases m with
      | zero => exact ⟨fun _ => ⟨a, rfl, ha⟩, fun _ => by omega⟩
      | succ m =>
        rw [Nat.add_lt_add_iff_right, count_prefix P l (fun i k x y hik hx hy => h (i + 1) (k + 1) x y (by omega) hx hy) m]
        rfl
theorem window_iff {α : Type} (P : α → Bool) (L : Nat) (hL : 1 ≤ L) : ∀ (l : List α), (∀ (i j k : Nat) (x y z : α), i < j → j < k → l[i]? = some x → l[j]? = some y → l[k]? = some z → P x = true → P z = true → P y = true) →
    (L ≤ l.countP P ↔ ∃ k x y, l[k]? = some x ∧ l[L - 1 + k]? = some y ∧ P x = true ∧ P y = true)
  | [], _ => by simp; omega
  | a :: l, h => by
    cases ha : P a
    · rw [List.countP_cons, ha, if_neg (by simp), Nat.add_zero, window_iff P L hL l (fun i j k x y z hij hjk hx hy hz => h (i + 1) (j + 1) (k + 1) x y z (by omega) (by omega) hx hy hz)]
      constructor
      · rintro ⟨k, x, y, hx, hy, h1, h2⟩
        exact ⟨k + 1, x, y, hx, hy, h1, h2⟩
      · rintro ⟨k, x, y, hx, hy, h1, h2⟩
        cases k with
        | zero => simp at hx; subst hx; rw [ha] at h1; cases h1
        | succ k => exact ⟨k, x, y, hx, hy, h1, h2⟩
    · have hp := count_prefix P (a :: l) (fun i k x y hik hx hy hP => by
        cases i with
        | zero => simp at hx; subst hx; exact ha
        | succ i => exact h 0 (i + 1) k a x y (by omega) hik rfl hx hy ha hP) (L - 1)
      rw [show L ≤ (a :: l).countP P ↔ L - 1 < (a :: l).countP P by omega, hp]
      constructor
      · rintro ⟨y, hy, hP⟩
        exact ⟨0, a, y, rfl, hy, ha, hP⟩
      · rintro ⟨k, x, y, hx, hy, h1, h2⟩
        obtain ⟨z, hz⟩ : ∃ z, (a :: l)[L - 1]? = some z := ⟨_, List.getElem?_eq_getElem (by have := (List.getElem?_eq_some_iff.1 hy).1; omega)⟩
        refine ⟨z, hz, ?_⟩
        by_cases hk : k = 0
        · subst hk
          rw [Nat.add_zero, hz] at hy
          cases hy
          exact h2
        · rcases Nat.eq_or_lt_of_le hL with h1' | h1'
          · rw [← h1'] at hz
            simp at hz
            subst hz
            exact ha
          · exact h 0 (L - 1) (L - 1 + k) a z y (by omega) (by omega) rfl hz hy ha h2
theorem cmpAp_eq (a b : SD) : cmpAp a b = if cmpPP a b = 0 then Lib.compareInt a.week b.week else cmpPP a b := by
  have e : cmpPP a b = if cmpS a.player b.player = 0 then cmpS a.club b.club else cmpS a.player b.player := by
    unfold cmpPP
    simp only [firstE]
    by_cases h1 : cmpS a.player b.player = 0
    · rw [if_pos h1, if_pos h1]
      by_cases h2 : cmpS a.club b.club = 0
      · rw [if_pos h2, h2]
      · rw [if_neg h2]
    · rw [if_neg h1, if_neg h1]
  rw [e]
  unfold cmpAp
  simp only [firstE]
  by_cases h1 : cmpS a.player b.player = 0
  · rw [if_pos h1, if_pos h1]
    by_cases h2 : cmpS a.club b.club = 0
    · rw [if_pos h2, if_pos h2]
      by_cases h3 : Lib.compareInt a.week b.week = 0
      · rw [if_pos h3, h3]
      · rw [if_neg h3]
    · rw [if_neg h2, if_neg h2]
  · rw [if_neg h1, if_neg h1, if_neg h1]
theorem cmpInt_neg (x y : Int) : Lib.compareInt x y < 0 ↔ x < y := by
  unfold Lib.compareInt
  by_cases h1 : x < y
  · rw [if_pos h1]; simp [h1]
  · rw [if_neg h1]
    by_cases h2 : x > y
    · rw [if_pos h2]; simp [h1]
    · rw [if_neg h2]; simp [h1]
theorem fallA_eq (o x : SD) : fallA o x = !decide (cmpAp o x < 0) := by
  unfold fallA
  rw [cmpAp_eq]
  by_cases h : cmpPP o x = 0
  · rw [if_pos h, h, Bool.eq_iff_iff]
    simp only [Bool.or_eq_true, Bool.and_eq_true, decide_eq_true_eq, Bool.not_eq_true', decide_eq_false_iff_not, cmpInt_neg]
    constructor
    · rintro (h' | ⟨_, h'⟩) <;> omega
    · intro h'; exact .inr ⟨trivial, by omega⟩
  · rw [if_neg h, Bool.eq_iff_iff]
    simp only [Bool.or_eq_true, Bool.and_eq_true, decide_eq_true_eq, Bool.not_eq_true', decide_eq_false_iff_not]
    omega
theorem apF_apH {ps : List PD} (ss : List SD) (h : chkPs ps = 0) (i : Nat) : apF ps ss i = apH ps ss i := by
  unfold apF apH
  simp only
  rw [known_hasP h, fallA_eq]
  cases hasP ps (stAt ss i).player
  · rfl
  · cases keyB (stAt ss i).club
    · rfl
    · cases betwB (stAt ss i).week 1 60
      · rfl
      · by_cases hi : i = 0
        · subst hi; rfl
        · simp only [if_neg hi, decide_eq_false hi, Bool.false_or, if_true]
          cases decide (cmpAp (stAt ss (i - 1)) (stAt ss i) < 0) <;> rfl
/-- The reference finds what the program finds in players and appearances. -/
theorem chkAp_eq (ps : List PD) (ss : List SD) : chkAp ps ss = firstE [chkPs ps, refAp ps ss] := by
  unfold chkAp refAp
  by_cases h : chkPs ps = 0
  · rw [eachE_congr fun i _ => apF_apH ss h i]
  · simp only [firstE]; rw [if_neg h, if_neg h]
theorem growE_eq (ps : List PD) (ss : List SD) (least week : Int) : growE ps ss least week = firstE [firstE [chkPs ps, refAp ps ss], unlessE (betwB least 1 60) 1, unlessE (betwB week 1 60) 1] := by
  unfold growE; rw [chkAp_eq]

/-- Is an appearance before another one? -/
def ltA (a b : SD) : Prop := ltS a.player b.player = true ∨ (a.player = b.player ∧ (ltS a.club b.club = true ∨ (a.club = b.club ∧ a.week < b.week)))
theorem cmpS_low {a b : ByteArray} (h : cmpS a b < 0) : ltS a b = true := by
  rw [← cmpS_neg, decide_eq_true h]
theorem cmpS_same {a b : ByteArray} (h : cmpS a b = 0) : a = b := by
  have := cmpS_zero a b
  rw [h] at this
  exact beqS_iff.1 this.symm
theorem ltA_of {a b : SD} (h : cmpAp a b < 0) : ltA a b := by
  unfold cmpAp at h
  simp only [firstE] at h
  by_cases h1 : cmpS a.player b.player = 0
  · rw [if_pos h1] at h
    by_cases h2 : cmpS a.club b.club = 0
    · rw [if_pos h2] at h
      refine .inr ⟨cmpS_same h1, .inr ⟨cmpS_same h2, ?_⟩⟩
      split at h
      · omega
      · exact (cmpInt_neg _ _).1 h
    · rw [if_neg h2] at h
      exact .inr ⟨cmpS_same h1, .inl (cmpS_low h)⟩
  · rw [if_neg h1] at h
    exact .inl (cmpS_low h)
theorem ltA_trans {a b c : SD} (h1 : ltA a b) (h2 : ltA b c) : ltA a c := by
  rcases h1 with h1 | ⟨e1, h1⟩
  · rcases h2 with h2 | ⟨e2, _⟩
    · exact .inl (ltS_trans h1 h2)
    · exact .inl (by rw [← e2]; exact h1)
  · rcases h2 with h2 | ⟨e2, h2⟩
    · exact .inl (by rw [e1]; exact h2)
    · refine .inr ⟨e1.trans e2, ?_⟩
      rcases h1 with h1 | ⟨f1, h1⟩
      · rcases h2 with h2 | ⟨f2, _⟩
        · exact .inl (ltS_trans h1 h2)
        · exact .inl (by rw [← f2]; exact h1)
      · rcases h2 with h2 | ⟨f2, h2⟩
        · exact .inl (by rw [f1]; exact h2)
        · exact .inr ⟨f1.trans f2, by omega⟩
def SortedA (ss : List SD) : Prop := ∀ i j, i < j → j < ss.length → ltA (stAt ss i) (stAt ss j)
theorem chkAp_each {ps : List PD} {ss : List SD} (h : chkAp ps ss = 0) : ∀ i, i < ss.length → apF ps ss i = 0 :=
  eachE_all (firstE_all h (eachE ss.length 2000 (apF ps ss)) (by simp))
theorem apF_rise {ps : List PD} {ss : List SD} {i : Nat} (h : apF ps ss i = 0) (hi : i ≠ 0) : ltA (stAt ss (i - 1)) (stAt ss i) := by
  have := firstE_all h (unlessE (decide (i = 0) || decide (cmpAp (stAt ss (i - 1)) (stAt ss i) < 0)) 7) (by simp)
  rw [decide_eq_false hi, Bool.false_or] at this
  refine ltA_of ?_
  by_cases hl : cmpAp (stAt ss (i - 1)) (stAt ss i) < 0
  · exact hl
  · rw [decide_eq_false hl] at this; cases this
theorem apF_known {ps : List PD} {ss : List SD} {i : Nat} (h : apF ps ss i = 0) : knownB ps (stAt ss i).player = true := by
  have := firstE_all h (unlessE (knownB ps (stAt ss i).player) 8) (by simp)
  cases hk : knownB ps (stAt ss i).player
  · rw [hk] at this; cases this
  · rfl
theorem sortedA_of {ps : List PD} {ss : List SD} (h : chkAp ps ss = 0) : SortedA ss := by
  have h0 := chkAp_each h
  intro i j hij
  induction j with
  | zero => omega
  | succ j ih =>
    intro hj
    have hs : ltA (stAt ss j) (stAt ss (j + 1)) := apF_rise (h0 (j + 1) hj) (by omega)
    rcases Nat.lt_or_eq_of_le (Nat.lt_succ_iff.1 hij) with h1 | rfl
    · exact ltA_trans (ih h1 (by omega)) hs
    · exact hs
/-- Is it an appearance of a player at a position by a week? -/
def cntB (who c : ByteArray) (week : Int) (s : SD) : Bool := beqS s.player who && beqS s.club c && decide (s.week ≤ week)
theorem cntB_iff {who c : ByteArray} {week : Int} {s : SD} : cntB who c week s = true ↔ s.player = who ∧ s.club = c ∧ s.week ≤ week := by
  unfold cntB
  rw [Bool.and_eq_true, Bool.and_eq_true, beqS_iff, beqS_iff, decide_eq_true_eq, and_assoc]
theorem ltS_between {a b c : ByteArray} (h1 : ltS a b = true) (h2 : ltS b c = true) (e : a = c) : False := by
  subst e
  have := ltS_trans h1 h2
  rw [ltS_irrefl] at this
  cases this
theorem cntB_between {who k : ByteArray} {week : Int} {a b c : SD} (h1 : ltA a b) (h2 : ltA b c) (ha : cntB who k week a = true) (hc : cntB who k week c = true) : cntB who k week b = true := by
  rw [cntB_iff] at *
  obtain ⟨a1, a2, a3⟩ := ha
  obtain ⟨c1, c2, c3⟩ := hc
  rcases h1 with h1 | ⟨e1, h1⟩
  · rcases h2 with h2 | ⟨e2, _⟩
    · exact (ltS_between h1 h2 (a1.trans c1.symm)).elim
    · rw [a1, e2, c1, ltS_irrefl] at h1; cases h1
  · rcases h2 with h2 | ⟨e2, h2⟩
    · rw [← e1, a1, c1, ltS_irrefl] at h2; cases h2
    · rcases h1 with h1 | ⟨f1, h1⟩
      · rcases h2 with h2 | ⟨f2, _⟩
        · exact (ltS_between h1 h2 (a2.trans c2.symm)).elim
        · rw [a2, f2, c2, ltS_irrefl] at h1; cases h1
      · rcases h2 with h2 | ⟨f2, h2⟩
        · rw [← f1, a2, c2, ltS_irrefl] at h2; cases h2
        · exact ⟨e1.symm.trans a1, f1.symm.trans a2, by omega⟩
/-- The positions that the windows before k give. -/
def posTo (p : PD) (ss : List SD) (L : Nat) (week : Int) : Nat → List ByteArray
  | 0 => p.pos
  | k + 1 => if hitB week (stAt ss k) (stAt ss (L - 1 + k)) && beqS (stAt ss (L - 1 + k)).player p.key then gainL (posTo p ss L week k) (stAt ss (L - 1 + k)).club else posTo p ss L week k
theorem posTo_spec {p : PD} (hp : StrictS p.pos) (ss : List SD) (L : Nat) (week : Int) : ∀ k, StrictS (posTo p ss L week k) ∧ ∀ c, c ∈ posTo p ss L week k ↔ c ∈ p.pos ∨ ∃ j, j < k ∧ hitB week (stAt ss j) (stAt ss (L - 1 + j)) = true ∧ (stAt ss (L - 1 + j)).player = p.key ∧ (stAt ss (L - 1 + j)).club = c
  | 0 => ⟨hp, fun c => ⟨.inl, fun h => h.elim id fun ⟨_, h, _⟩ => by omega⟩⟩
  | k + 1 => by
    obtain ⟨h1, h2⟩ := posTo_spec hp ss L week k
    unfold posTo
    split
    · rename_i h
      rw [Bool.and_eq_true, beqS_iff] at h
      obtain ⟨g1, g2⟩ := gainL_spec h1 (stAt ss (L - 1 + k)).club
      refine ⟨g1, fun c => ?_⟩
      rw [g2, h2]
      constructor
      · rintro ((h' | ⟨j, hj, r⟩) | rfl)
        · exact .inl h'
        · exact .inr ⟨j, by omega, r⟩
        · exact .inr ⟨k, by omega, h.1, h.2, rfl⟩
      · rintro (h' | ⟨j, hj, r⟩)
        · exact .inl (.inl h')
        · rcases Nat.lt_succ_iff_lt_or_eq.1 hj with hj | rfl
          · exact .inl (.inr ⟨j, hj, r⟩)
          · exact .inr r.2.2.symm
    · rename_i h
      refine ⟨h1, fun c => ?_⟩
      rw [h2]
      constructor
      · rintro (h' | ⟨j, hj, r⟩)
        · exact .inl h'
        · exact .inr ⟨j, by omega, r⟩
      · rintro (h' | ⟨j, hj, r⟩)
        · exact .inl h'
        · rcases Nat.lt_succ_iff_lt_or_eq.1 hj with hj | rfl
          · exact .inr ⟨j, hj, r⟩
          · exact absurd (by rw [Bool.and_eq_true, beqS_iff]; exact ⟨r.1, r.2.1⟩) h
theorem sorted_key {ps : List PD} (hs : SortedP ps) {i j : Nat} {p q : PD} (hi : ps[i]? = some p) (hj : ps[j]? = some q) (e : p.key = q.key) : i = j := by
  have hil := (List.getElem?_eq_some_iff.1 hi).1
  have hjl := (List.getElem?_eq_some_iff.1 hj).1
  rcases Nat.lt_trichotomy i j with h | h | h
  · have := hs i j h hjl
    rw [keyAt_some hi, keyAt_some hj, e, ltS_irrefl] at this; cases this
  · exact h
  · have := hs j i h hil
    rw [keyAt_some hi, keyAt_some hj, e, ltS_irrefl] at this; cases this
theorem growTo_map {ps : List PD} {ss : List SD} (hc : chkAp ps ss = 0) (L : Nat) (week : Int) : ∀ k, k ≤ ss.length - (L - 1) → growTo ps ss L week k = ps.map fun p => { p with pos := posTo p ss L week k }
  | 0, _ => by
    have : (fun p : PD => { p with pos := posTo p ss L week 0 }) = id := rfl
    rw [this, List.map_id]; rfl
  | k + 1, hk => by
    have ih := growTo_map hc L week k (by omega)
    have hps := firstE_all hc (chkPs ps) (by simp)
    have hs := sorted_of hps
    unfold growTo
    split
    · rename_i hh
      have hkn := apF_known (chkAp_each hc (L - 1 + k) (by omega))
      obtain ⟨p, hp, he⟩ := known_at hkn
      have hb : bsI (growTo ps ss L week k) (stAt ss (L - 1 + k)).player = bsI ps (stAt ss (L - 1 + k)).player := bsI_congr (fun i => growTo_key ps ss L week i k) (growTo_length ps ss L week k) _
      unfold gainP
      rw [hb, ih, List.getElem?_map, hp]
      simp only [Option.map_some]
      apply List.ext_getElem?
      intro j
      rw [List.getElem?_set, List.getElem?_map, List.length_map]
      split
      · rename_i hj
        subst hj
        rw [if_pos (List.getElem?_eq_some_iff.1 hp).1, List.getElem?_map, hp]
        simp only [Option.map_some]
        congr 2
        rw [posTo, hh, he, beqS_self]; rfl
      · rename_i hj
        rw [List.getElem?_map]
        cases hq : ps[j]? with
        | none => rfl
        | some q =>
          simp only [Option.map_some]
          congr 2
          have hne : beqS (stAt ss (L - 1 + k)).player q.key = false := by
            cases hb' : beqS (stAt ss (L - 1 + k)).player q.key
            · rfl
            · exact absurd (sorted_key hs hp hq (he.trans (beqS_iff.1 hb'))) hj
          rw [posTo, hne, Bool.and_false]; rfl
    · rename_i hh
      rw [ih]
      refine List.map_congr_left fun q _ => ?_
      congr 1
      rw [posTo]
      have : hitB week (stAt ss k) (stAt ss (L - 1 + k)) = false := by simpa using hh
      rw [this, Bool.false_and]; rfl
/-- The positions that the reference adds. -/
def addsL (who : ByteArray) (ss : List SD) (least week : Int) : List ByteArray := (ss.filter fun y => decide (least ≤ (ss.countP (cntB who y.club week) : Int))).map SD.club
def grownP (ss : List SD) (least week : Int) (p : PD) : PD := { p with pos := compactL (sortL (p.pos ++ addsL p.key ss least week)) }
theorem posTo_cs {ps : List PD} {ss : List SD} (hc : chkAp ps ss = 0) {L : Nat} (hL : 1 ≤ L) (week : Int) {p : PD} (hp : StrictS p.pos) : posTo p ss L week (ss.length - (L - 1)) = compactL (sortL (p.pos ++ addsL p.key ss (L : Int) week)) := by
  have hs := sortedA_of hc
  obtain ⟨h1, h2⟩ := posTo_spec hp ss L week (ss.length - (L - 1))
  refine strictS_ext h1 (cs_strictS _) fun c => ?_
  rw [h2, mem_csL, List.mem_append]
  have hat : ∀ {i : Nat} {s : SD}, ss[i]? = some s → stAt ss i = s := stAt_some
  have hw := window_iff (cntB p.key c week) L hL ss (fun i j k x y z hij hjk hx hy hz hP hQ => by
    have a := hs i j hij (List.getElem?_eq_some_iff.1 hy).1
    have b := hs j k hjk (List.getElem?_eq_some_iff.1 hz).1
    rw [hat hx, hat hy] at a
    rw [hat hy, hat hz] at b
    exact cntB_between a b hP hQ)
  have key : (∃ j, j < ss.length - (L - 1) ∧ hitB week (stAt ss j) (stAt ss (L - 1 + j)) = true ∧ (stAt ss (L - 1 + j)).player = p.key ∧ (stAt ss (L - 1 + j)).club = c) ↔ c ∈ addsL p.key ss (L : Int) week := by
    unfold addsL
    rw [List.mem_map]
    constructor
    · rintro ⟨j, hj, hh, e1, e2⟩
      obtain ⟨x, hx⟩ : ∃ x, ss[j]? = some x := ⟨_, List.getElem?_eq_getElem (by omega)⟩
      obtain ⟨y, hy⟩ : ∃ y, ss[L - 1 + j]? = some y := ⟨_, List.getElem?_eq_getElem (by omega)⟩
      rw [hat hx, hat hy] at hh
      rw [hat hy] at e1 e2
      unfold hitB at hh
      rw [Bool.and_eq_true, Bool.and_eq_true, decide_eq_true_eq, beqS_iff, beqS_iff] at hh
      obtain ⟨⟨w1, w2⟩, w3⟩ := hh
      have hxw : x.week ≤ week := by
        by_cases h0 : L - 1 = 0
        · rw [h0, Nat.zero_add, hx] at hy
          cases hy; exact w1
        · have := hs j (L - 1 + j) (by omega) (by omega)
          rw [hat hx, hat hy] at this
          rcases this with h | ⟨_, h | ⟨_, h⟩⟩
          · rw [w2, ltS_irrefl] at h; cases h
          · rw [w3, ltS_irrefl] at h; cases h
          · omega
      refine ⟨y, List.mem_filter.2 ⟨List.mem_of_getElem? hy, ?_⟩, e2⟩
      rw [e2, decide_eq_true_eq]
      have := hw.2 ⟨j, x, y, hx, hy, cntB_iff.2 ⟨w2.trans e1, w3.trans e2, hxw⟩, cntB_iff.2 ⟨e1, e2, w1⟩⟩
      omega
    · rintro ⟨y, hy, rfl⟩
      obtain ⟨_, hcnt⟩ := List.mem_filter.1 hy
      rw [decide_eq_true_eq] at hcnt
      obtain ⟨k, x, z, hx, hz, hPx, hPz⟩ := hw.1 (by omega)
      obtain ⟨a1, a2, _⟩ := cntB_iff.1 hPx
      obtain ⟨b1, b2, b3⟩ := cntB_iff.1 hPz
      have hzl := (List.getElem?_eq_some_iff.1 hz).1
      refine ⟨k, by omega, ?_, ?_, ?_⟩
      · rw [hat hx, hat hz]
        unfold hitB
        rw [Bool.and_eq_true, Bool.and_eq_true, decide_eq_true_eq, beqS_iff, beqS_iff]
        exact ⟨⟨b3, a1.trans b1.symm⟩, a2.trans b2.symm⟩
      · rw [hat hz]; exact b1
      · rw [hat hz]; exact b2
  rw [key]
theorem growAll_eq {ps : List PD} {ss : List SD} (hc : chkAp ps ss = 0) {least : Int} (hl : 1 ≤ least) (week : Int) (hp : ∀ p ∈ ps, StrictS p.pos) : growAll ps ss least week = ps.map (grownP ss least week) := by
  obtain ⟨L, rfl⟩ : ∃ L : Nat, least = (L : Int) := ⟨least.toNat, by omega⟩
  unfold growAll
  rw [Int.toNat_natCast, growTo_map hc L week _ (Nat.le_refl _)]
  refine List.map_congr_left fun p hpm => ?_
  unfold grownP
  rw [posTo_cs hc (by omega) week (hp p hpm)]
theorem risF_rise {ks : List ByteArray} {i : Nat} (h : risF ks i = 0) (hi : i ≠ 0) : ltS (strAt ks (i - 1)) (strAt ks i) = true := by
  have := firstE_all h (unlessE (decide (i = 0) || ltS (strAt ks (i - 1)) (strAt ks i)) 7) (by simp)
  rw [decide_eq_false hi, Bool.false_or] at this
  cases hl : ltS (strAt ks (i - 1)) (strAt ks i)
  · rw [hl] at this; cases this
  · rfl
theorem strict_of_ris {ks : List ByteArray} (h : ∀ i, i < ks.length → risF ks i = 0) : StrictS ks := by
  have H : ∀ i j, i < j → j < ks.length → ltS (strAt ks i) (strAt ks j) = true := by
    intro i j hij
    induction j with
    | zero => omega
    | succ j ih =>
      intro hj
      have hs : ltS (strAt ks j) (strAt ks (j + 1)) = true := risF_rise (h (j + 1) hj) (by omega)
      rcases Nat.lt_or_eq_of_le (Nat.lt_succ_iff.1 hij) with h1 | rfl
      · exact ltS_trans (ih h1 (by omega)) hs
      · exact hs
  unfold StrictS
  rw [List.pairwise_iff_getElem]
  intro i j hi hj hij
  have := H i j hij hj
  rwa [strAt_some (List.getElem?_eq_getElem hi), strAt_some (List.getElem?_eq_getElem hj)] at this
theorem pos_strict {ps : List PD} (h : chkPs ps = 0) {p : PD} (hp : p ∈ ps) : StrictS p.pos := by
  obtain ⟨i, hi⟩ := List.getElem?_of_mem hp
  have h1 := eachE_all h i (List.getElem?_eq_some_iff.1 hi).1
  have h2 := firstE_all h1 (eachE (plAt ps i).pos.length 10 (risF (plAt ps i).pos)) (by simp)
  rw [plAt_some hi] at h2
  exact strict_of_ris (eachE_all h2)
/-- What the reference's GrownOf answers. -/
def refGr (ps : List PD) (ss : List SD) (least week : Int) : List PD × Int :=
  if (ps.map (grownP ss least week)).any overB then ([], 12) else (ps.map (grownP ss least week), 0)
theorem growR_eq {ps : List PD} {ss : List SD} {least week : Int} (h : growE ps ss least week = 0) : growR ps ss least week = refGr ps ss least week := by
  have hc := firstE_all h (chkAp ps ss) (by simp)
  have hl : 1 ≤ least := by
    have := firstE_all h (unlessE (betwB least 1 60) 1) (by simp)
    unfold unlessE betwB at this
    split at this
    · rename_i h'; simp at h'; exact h'.1
    · cases this
  have hps := firstE_all hc (chkPs ps) (by simp)
  unfold growR refGr
  rw [if_pos h, growAll_eq hc hl week fun p hp => pos_strict hps hp]
theorem growR_err {ps : List PD} {ss : List SD} {least week : Int} (h : growE ps ss least week ≠ 0) : growR ps ss least week = ([], growE ps ss least week) := by
  unfold growR; rw [if_neg h]
theorem inE_eq (ps : List PD) (pos : ByteArray) : inE ps pos = firstE [chkPs ps, unlessE (keyB pos) 5] := rfl
end Go.Proofs.YtmjkbmkjnbpgeaaGreatDoor
