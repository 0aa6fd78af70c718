/- Plain facts on rules, statistics and points. -/
import Derived.Test.YtmejjkicagkogaaGreatDoorSpe
namespace Go.Proofs.YtmejjkicagkogaaGreatDoor
open Go.RowKit

theorem firstE_all0 {l : List Int} (h : firstE l = 0) : ∀ x ∈ l, x = 0 := by
  induction l with
  | nil => intro x hx; cases hx
  | cons y ys ih =>
    unfold firstE at h
    by_cases hy : y = 0
    · rw [if_pos hy] at h
      intro x hx
      rcases List.mem_cons.1 hx with rfl | hx
      · exact hy
      · exact ih h x hx
    · rw [if_neg hy] at h; exact absurd h hy
theorem eachE_ok {n : Nat} {most : Int} {f : Nat → Int} (h : eachE n most f = 0) : (n : Int) ≤ most ∧ ∀ i, i < n → f i = 0 := by
  unfold eachE at h
  by_cases hm : most < (n : Int)
  · rw [if_pos hm] at h; cases h
  · rw [if_neg hm] at h
    refine ⟨by omega, fun i hi => firstE_all0 h _ (List.mem_map.2 ⟨i, List.mem_range.2 (by simpa using hi), rfl⟩)⟩
theorem unlessE_ok {b : Bool} {e : Int} (he : e ≠ 0) (h : unlessE b e = 0) : b = true := by
  cases b
  · simp [unlessE] at h; exact absurd h he
  · rfl
theorem wrongF_ok {n d : Int} (h : wrongF n d 10000 = 0) : 0 < d ∧ d ≤ 100 ∧ -1000000 ≤ n * ((100 : Int).tdiv d) ∧ n * ((100 : Int).tdiv d) ≤ 1000000 := by
  unfold wrongF at h
  by_cases h1 : d ≤ 0 ∨ gcdI n d ≠ 1
  · rw [if_pos h1] at h; cases h
  rw [if_neg h1] at h
  by_cases h2 : (100 : Int) % d ≠ 0 ∨ ¬ (-10000 * d ≤ n ∧ n ≤ 10000 * d)
  · rw [if_pos h2] at h; cases h
  have hd : 0 < d := by omega
  have h3 : (100 : Int) % d = 0 := by omega
  have h4 : -10000 * d ≤ n ∧ n ≤ 10000 * d := by omega
  have h5 : d * ((100 : Int) / d) = 100 := Int.mul_ediv_cancel' (Int.dvd_of_emod_eq_zero h3)
  rw [Int.tdiv_eq_ediv_of_nonneg (by omega)]
  have h6 : 0 ≤ (100 : Int) / d := Int.ediv_nonneg (by omega) (by omega)
  generalize (100 : Int) / d = q at h5 h6 ⊢
  have h7 := Int.mul_le_mul_of_nonneg_right h4.2 h6
  have h8 := Int.mul_le_mul_of_nonneg_right h4.1 h6
  rw [Int.mul_assoc, h5] at h7 h8
  exact ⟨hd, den_100 h3, by omega, by omega⟩
/-- What right rules are. -/
theorem rules_ok {rs : List RD} (h : chkRl rs = 0) : rs.length ≤ 100 ∧ ∀ r ∈ rs, (1 ≤ r.kind ∧ r.kind ≤ 4) ∧ (r.kind = 2 → 1 ≤ r.many) ∧ wrongF r.num r.den 10000 = 0 := by
  obtain ⟨h1, h2⟩ := eachE_ok h
  refine ⟨by omega, fun r hr => ?_⟩
  obtain ⟨i, hi⟩ := List.getElem?_of_mem hr
  have h3 := h2 i (List.getElem?_eq_some_iff.1 hi).1
  unfold rlF at h3
  rw [rlAt_some hi] at h3
  have hk := unlessE_ok (by omega) (firstE_all0 h3 (unlessE (betwB r.kind 1 4) 4) (by simp))
  have hm := unlessE_ok (by omega) (firstE_all0 h3 (unlessE (manyB r.kind r.many) 1) (by simp))
  have hw := firstE_all0 h3 (wrongF r.num r.den 10000) (by simp)
  unfold betwB at hk
  simp only [Bool.and_eq_true, decide_eq_true_eq] at hk
  refine ⟨hk, fun h2 => ?_, hw⟩
  unfold manyB betwB at hm
  simp [h2] at hm
  exact hm.1
theorem sorted_step {ps : List ByteArray} (h : ∀ i, i + 1 < ps.length → ltS (keyAt ps i) (keyAt ps (i + 1)) = true) : SortedK ps := by
  intro i j hij hj
  obtain ⟨d, rfl⟩ : ∃ d, j = i + 1 + d := ⟨j - (i + 1), by omega⟩
  induction d with
  | zero => exact h i hj
  | succ d ih => exact ltS_trans (ih (by omega) (by omega)) (h (i + 1 + d) (by omega))
/-- What a right line is. -/
theorem line_ok {l : LD} (h : lnE l = 0) : (∀ t ∈ l.stats, -100000 ≤ t.count ∧ t.count ≤ 100000) ∧ SortedK (l.stats.map TD.name) := by
  have h1 := firstE_all0 h (eachE l.stats.length 40 (tdF l.stats)) (by simp)
  obtain ⟨_, h2⟩ := eachE_ok h1
  refine ⟨fun t ht => ?_, sorted_step fun i hi => ?_⟩
  · obtain ⟨i, hi⟩ := List.getElem?_of_mem ht
    have h3 := h2 i (List.getElem?_eq_some_iff.1 hi).1
    unfold tdF at h3
    rw [tdAt_some hi] at h3
    have hk := unlessE_ok (by omega) (firstE_all0 h3 (unlessE (betwB t.count (-100000) 100000) 1) (by simp))
    unfold betwB at hk
    simpa using hk
  · have hl : i + 1 < l.stats.length := by simpa using hi
    have h3 := h2 (i + 1) hl
    have ha : l.stats[i]? = some l.stats[i] := List.getElem?_eq_getElem (by omega)
    have hb : l.stats[i + 1]? = some l.stats[i + 1] := List.getElem?_eq_getElem hl
    unfold tdF at h3
    rw [Nat.add_sub_cancel, tdAt_some hb, tdAt_some ha] at h3
    have hk := unlessE_ok (by omega) (firstE_all0 h3 (unlessE (decide (i + 1 = 0) || ltS l.stats[i].name l.stats[i + 1].name) 7) (by simp))
    have e1 : keyAt (l.stats.map TD.name) i = l.stats[i].name := keyAt_some (by rw [List.getElem?_map, ha]; rfl)
    have e2 : keyAt (l.stats.map TD.name) (i + 1) = l.stats[i + 1].name := keyAt_some (by rw [List.getElem?_map, hb]; rfl)
    rw [e1, e2]
    simpa using hk
/-- How often something was done: by a look at all. -/
def cntR (ts : List TD) (stat : ByteArray) : Int := ts.foldl (fun n t => if beqS t.name stat then t.count else n) 0
theorem fold_none {ts : List TD} {stat : ByteArray} (h : ∀ t ∈ ts, beqS t.name stat = false) (n : Int) : ts.foldl (fun n t => if beqS t.name stat then t.count else n) n = n := by
  induction ts generalizing n with
  | nil => rfl
  | cons t ts ih =>
    simp only [List.foldl_cons, h t (by simp), Bool.false_eq_true, if_false]
    exact ih (fun x hx => h x (by simp [hx])) n
theorem cnt_eq {ts : List TD} (hs : SortedK (ts.map TD.name)) (stat : ByteArray) : cntB ts stat = cntR ts stat := by
  unfold cntB
  by_cases hk : knownB (ts.map TD.name) stat = true
  · rw [if_pos hk]
    have hq := known_lt hk
    generalize hQ : bsI (ts.map TD.name) stat = q at hq
    have hql : q < ts.length := by simpa using hq
    have hb : beqS (keyAt (ts.map TD.name) q) stat = true := by
      unfold knownB at hk
      rw [Bool.and_eq_true, hQ] at hk
      exact hk.2
    have ht : ts[q]? = some ts[q] := List.getElem?_eq_getElem hql
    have hn : ∀ (i : Nat) (t : TD), ts[i]? = some t → keyAt (ts.map TD.name) i = t.name := fun i t h => keyAt_some (by rw [List.getElem?_map, h]; rfl)
    have hne : ∀ (i : Nat) (t : TD), i ≠ q → ts[i]? = some t → beqS t.name stat = false := by
      intro i t hi hit
      have hil := (List.getElem?_eq_some_iff.1 hit).1
      cases hh : beqS t.name stat
      · rfl
      · have e1 := beqS_iff.1 hh
        have e2 := beqS_iff.1 hb
        rw [← hn i t hit] at e1
        rcases Nat.lt_or_gt_of_ne hi with h | h
        · have := hs i q h (by simpa using hql)
          rw [e1, e2, ltS_irrefl] at this; cases this
        · have := hs q i h (by simpa using hil)
          rw [e1, e2, ltS_irrefl] at this; cases this
    have hsplit : ts = ts.take q ++ ts[q] :: ts.drop (q + 1) := by rw [← List.drop_eq_getElem_cons hql, List.take_append_drop]
    have htn : beqS ts[q].name stat = true := by rw [hn q _ ht] at hb; exact hb
    rw [tdAt_some ht]
    unfold cntR
    conv => rhs; rw [hsplit]
    rw [List.foldl_append, List.foldl_cons, if_pos htn, fold_none]
    intro t hm
    obtain ⟨j, hj⟩ := List.getElem?_of_mem hm
    rw [List.getElem?_drop] at hj
    exact hne _ t (by omega) hj
  · rw [if_neg hk]
    have hf : knownB (ts.map TD.name) stat = false := by simpa using hk
    rw [known_eq hs] at hf
    unfold cntR
    rw [fold_none]
    intro t ht
    unfold hasK at hf
    rw [List.any_eq_false] at hf
    have := hf t.name (List.mem_map.2 ⟨t, ht, rfl⟩)
    simpa using this
theorem cnt_small {ts : List TD} (h : ∀ t ∈ ts, -100000 ≤ t.count ∧ t.count ≤ 100000) (stat : ByteArray) : -100000 ≤ cntB ts stat ∧ cntB ts stat ≤ 100000 := by
  unfold cntB
  by_cases hk : knownB (ts.map TD.name) stat = true
  · rw [if_pos hk]
    have hq := known_lt hk
    rw [List.length_map] at hq
    rw [tdAt_some (List.getElem?_eq_getElem hq)]
    exact h _ (List.getElem_mem hq)
  · rw [if_neg hk]; omega
theorem mul_small {a b A B : Int} (ha : -A ≤ a ∧ a ≤ A) (hb : -B ≤ b ∧ b ≤ B) : -(A * B) ≤ a * b ∧ a * b ≤ A * B := by
  have h1 : a.natAbs ≤ A.natAbs := by omega
  have h2 : b.natAbs ≤ B.natAbs := by omega
  have h3 := Nat.mul_le_mul h1 h2
  rw [← Int.natAbs_mul, ← Int.natAbs_mul] at h3
  have h4 : 0 ≤ A * B := Int.mul_nonneg (by omega) (by omega)
  omega
/-- Right rules and a right line fit. -/
theorem fit_of {rs : List RD} {l : LD} (hr : chkRl rs = 0) (hl : lnE l = 0) : ∀ r ∈ rs, FitR l.stats r := by
  intro r hm
  obtain ⟨_, h2⟩ := rules_ok hr
  obtain ⟨h3, h4, h5⟩ := h2 r hm
  obtain ⟨w1, w2, w3, w4⟩ := wrongF_ok h5
  have hc := cnt_small (line_ok hl).1 r.stat
  have ht := times_small (kind := r.kind) hc h4
  have hg := mul_small (A := 1000000) (B := 100000) ⟨w3, w4⟩ ht
  exact ⟨w1, w2, ⟨w3, w4⟩, hc, h4, by unfold givenI; omega⟩
/-- How many times a rule gives its Worth, as the reference reckons. -/
def timesR (kind many n : Int) : Int := if kind = 1 then n else if kind = 2 ∧ 0 < n then n.tdiv many else if kind = 3 ∧ many ≤ n ∨ kind = 4 ∧ n = 0 then 1 else 0
theorem times_eq {kind many n : Int} (h : 1 ≤ kind ∧ kind ≤ 4) : timesI kind many n = timesR kind many n := by
  unfold timesI timesR onceI
  by_cases h1 : kind = 1
  · simp [h1]
  · by_cases h2 : kind = 2
    · subst h2
      by_cases hn : 0 < n
      · simp [hn, show max n 0 = n by omega]
      · simp [hn, show max n 0 = 0 by omega]
    · by_cases h3 : kind = 3
      · subst h3; simp
      · have h4 : kind = 4 := by omega
        subst h4; simp
def worthR (ks : List ByteArray) (ts : List TD) (r : RD) : Int := if appB ks r then timesR r.kind r.many (cntR ts r.stat) * (r.num * ((100 : Int).tdiv r.den)) else 0
theorem worth_eq {ks : List ByteArray} {ts : List TD} {r : RD} (hs : SortedK (ts.map TD.name)) (hk : 1 ≤ r.kind ∧ r.kind ≤ 4) : worthR ks ts r = if appB ks r then givenI ts r else 0 := by
  unfold worthR givenI
  rw [← cnt_eq hs, ← times_eq hk, Int.mul_comm]
theorem pts_eq {ks : List ByteArray} {ts : List TD} (hs : SortedK (ts.map TD.name)) : ∀ {rs : List RD}, (∀ r ∈ rs, 1 ≤ r.kind ∧ r.kind ≤ 4) → sumI (rs.map (worthR ks ts)) = ptsI rs ks ts
  | [], _ => rfl
  | r :: rs, h => by
    have ih := pts_eq (ks := ks) hs (rs := rs) fun x hx => h x (by simp [hx])
    unfold ptsI at ih ⊢
    rw [List.map_cons, sumI, ih, worth_eq hs (h r (by simp))]
    cases ha : appB ks r
    · simp [ha]
    · simp [ha, sumI]
theorem hun_low (p : Int) : (lowF p 100).1 * ((100 : Int).tdiv (lowF p 100).2) = p := by
  unfold lowF
  have hg : 0 < gcdI p 100 := gcdI_pos (by omega)
  have d1 : gcdI p 100 ∣ p := by unfold gcdI; exact Int.ofNat_dvd_left.2 (Nat.gcd_dvd_left _ _)
  have d2 : gcdI p 100 ∣ 100 := by unfold gcdI; exact Int.ofNat_dvd_left.2 (Nat.gcd_dvd_right _ _)
  generalize gcdI p 100 = g at hg d1 d2
  obtain ⟨m, rfl⟩ := d1
  obtain ⟨k, hk⟩ := d2
  have hk0 : 0 < k := by
    rcases Int.lt_or_le 0 k with h | h
    · exact h
    · have := Int.mul_nonpos_of_nonneg_of_nonpos (show 0 ≤ g by omega) h
      omega
  dsimp only
  rw [Int.mul_tdiv_cancel_left _ (by omega), show (100 : Int).tdiv g = k by rw [hk, Int.mul_tdiv_cancel_left _ (by omega)], show (100 : Int).tdiv k = g by rw [hk, Int.mul_comm g k, Int.mul_tdiv_cancel_left _ (by omega)], Int.mul_comm]
theorem low_64 {p : Int} (h : Int64 p) : Int64 (lowF p 100).1 ∧ 0 < (lowF p 100).2 ∧ (lowF p 100).2 ≤ 100 := by
  have hg : 0 < gcdI p 100 := gcdI_pos (by omega)
  refine ⟨tdiv_64 h hg, ?_, ?_⟩
  · show 0 < (100 : Int).tdiv (gcdI p 100)
    have d2 : gcdI p 100 ∣ 100 := by unfold gcdI; exact Int.ofNat_dvd_left.2 (Nat.gcd_dvd_right _ _)
    generalize gcdI p 100 = g at hg d2
    obtain ⟨k, hk⟩ := d2
    rw [hk, Int.mul_tdiv_cancel_left _ (by omega)]
    rcases Int.lt_or_le 0 k with h | h
    · exact h
    · have := Int.mul_nonpos_of_nonneg_of_nonpos (show 0 ≤ g by omega) h
      omega
  · show (100 : Int).tdiv (gcdI p 100) ≤ 100
    have h2 : ((100 : Int).tdiv (gcdI p 100)).natAbs ≤ (100 : Int).natAbs := by rw [Int.natAbs_tdiv]; exact Nat.div_le_self _ _
    omega
theorem pts_bound {rs : List RD} {ks : List ByteArray} {ts : List TD} (h : ∀ r ∈ rs, FitR ts r) (hn : rs.length ≤ 100) : -10000000000000 ≤ ptsI rs ks ts ∧ ptsI rs ks ts ≤ 10000000000000 := by
  have := sumI_bound (l := (rs.filter (appB ks)).map (givenI ts)) fun x hx => by
    obtain ⟨r, hr, rfl⟩ := List.mem_map.1 hx
    exact (h r ((List.mem_filter.1 hr).1)).giv
  have h2 := List.length_filter_le (appB ks) rs
  rw [List.length_map] at this
  unfold ptsI
  omega
end Go.Proofs.YtmejjkicagkogaaGreatDoor
