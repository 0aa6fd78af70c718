/- CheckSlots. -/
import Derived.Test.YthlfjfmlmcoihaaGreatMgaj
import Derived.Test.YthlfjfmlmcoihaaGreatMgah
import Derived.Deep.CutRange
import Derived.Test.YthlfjfmlmcoihaaGreatMgai
import Derived.Test.YthlfjfmlmcoihaaGreatMgad
import Derived.Test.YthlfjfmlmcoihaaGreatMgab
/- Plain facts on rules, statistics and points. -/
namespace Go.Proofs.YthlfjfmlmcoihaaGreat
open Go.RowKit

theorem firstE_all0 {l : List Int} (h : firstE l = 0) : ∀ x ∈ l, x = 0 := by
  induction l with
  | nil => intro x hx; cases hx
  | cons y ys ih =>
    unfold firstE at h
    by_cases hy : y = 0
    · rw [if_pos hy] at h
      intro x hx
      rcases List.mem_cons.1 hx with rfl | hx
      · exact hy
      · exact ih h x hx
    · rw [if_neg hy] at h; exact absurd h hy
theorem eachE_ok {n : Nat} {most : Int} {f : Nat → Int} (h : eachE n most f = 0) : (n : Int) ≤ most ∧ ∀ i, i < n → f i = 0 := by
  unfold eachE at h
  by_cases hm : most < (n : Int)
  · rw [if_pos hm] at h; cases h
  · rw [if_neg hm] at h
    refine ⟨by omega, fun i hi => firstE_all0 h _ (List.mem_map.2 ⟨i, List.mem_range.2 (by simpa using hi), rfl⟩)⟩
theorem unlessE_ok {b : Bool} {e : Int} (he : e ≠ 0) (h : unlessE b e = 0) : b = true := by
  cases b
  · simp [unlessE] at h; exact absurd h he
  · rfl
theorem wrongF_ok {n d : Int} (h : wrongF n d 10000 = 0) : 0 < d ∧ d ≤ 100 ∧ -1000000 ≤ n * ((100 : Int).tdiv d) ∧ n * ((100 : Int).tdiv d) ≤ 1000000 := by
  unfold wrongF at h
  by_cases h1 : d ≤ 0 ∨ gcdI n d ≠ 1
  · rw [if_pos h1] at h; cases h
  rw [if_neg h1] at h
  by_cases h2 : (100 : Int) % d ≠ 0 ∨ ¬ (-10000 * d ≤ n ∧ n ≤ 10000 * d)
  · rw [if_pos h2] at h; cases h
  have hd : 0 < d := by omega
  have h3 : (100 : Int) % d = 0 := by omega
  have h4 : -10000 * d ≤ n ∧ n ≤ 10000 * d := by omega
  have h5 : d * ((100 : Int) / d) = 100 := Int.mul_ediv_cancel' (Int.dvd_of_emod_eq_zero h3)
  rw [Int.tdiv_eq_ediv_of_nonneg (by omega)]
  have h6 : 0 ≤ (100 : Int) / d := Int.ediv_nonneg (by omega) (by omega)
  generalize (100 : Int) / d = q at h5 h6 ⊢
  have h7 := Int.mul_le_mul_of_nonneg_right h4.2 h6
  have h8 := Int.mul_le_mul_of_nonneg_right h4.1 h6
  rw [Int.mul_assoc, h5] at h7 h8
  exact ⟨hd, den_100 h3, by omega, by omega⟩
/-- What right rules are. -/
theorem rules_ok {rs : List RD} (h : chkRl rs = 0) : rs.length ≤ 100 ∧ ∀ r ∈ rs, (1 ≤ r.kind ∧ r.kind ≤ 4) ∧ (r.kind = 2 → 1 ≤ r.many) ∧ wrongF r.num r.den 10000 = 0 := by
  obtain ⟨h1, h2⟩ := eachE_ok h
  refine ⟨by omega, fun r hr => ?_⟩
  obtain ⟨i, hi⟩ := List.getElem?_of_mem hr
  have h3 := h2 i (List.getElem?_eq_some_iff.1 hi).1
  unfold rlF at h3
  rw [rlAt_some hi] at h3
  have hk := unlessE_ok (by omega) (firstE_all0 h3 (unlessE (betwB r.kind 1 4) 4) (by simp))
  have hm := unlessE_ok (by omega) (firstE_all0 h3 (unlessE (manyB r.kind r.many) 1) (by simp))
  have hw := firstE_all0 h3 (wrongF r.num r.den 10000) (by simp)
  unfold betwB at hk
  simp only [Bool.and_eq_true, decide_eq_true_eq] at hk
  refine ⟨hk, fun h2 => ?_, hw⟩
  unfold manyB betwB at hm
  simp [h2] at hm
  exact hm.1
theorem sorted_step {ps : List ByteArray} (h : ∀ i, i + 1 < ps.length → ltS (keyAt ps i) (keyAt ps (i + 1)) = true) : SortedK ps := by
  intro i j hij hj
  obtain ⟨d, rfl⟩ : ∃ d, j = i + 1 + d := ⟨j - (i + 1), by omega⟩
  induction d with
  | zero => exact h i hj
  | succ d ih => exact ltS_trans (ih (by omega) (by omega)) (h (i + 1 + d) (by omega))
/-- What a right line is. -/
theorem line_ok {l : LD} (h : lnE l = 0) : (∀ t ∈ l.stats, -100000 ≤ t.count ∧ t.count ≤ 100000) ∧ SortedK (l.stats.map TD.name) := by
  have h1 := firstE_all0 h (eachE l.stats.length 40 (tdF l.stats)) (by simp)
  obtain ⟨_, h2⟩ := eachE_ok h1
  refine ⟨fun t ht => ?_, sorted_step fun i hi => ?_⟩
  · obtain ⟨i, hi⟩ := List.getElem?_of_mem ht
    have h3 := h2 i (List.getElem?_eq_some_iff.1 hi).1
    unfold tdF at h3
    rw [tdAt_some hi] at h3
    have hk := unlessE_ok (by omega) (firstE_all0 h3 (unlessE (betwB t.count (-100000) 100000) 1) (by simp))
    unfold betwB at hk
    simpa using hk
  · have hl : i + 1 < l.stats.length := by simpa using hi
    have h3 := h2 (i + 1) hl
    have ha : l.stats[i]? = some l.stats[i] := List.getElem?_eq_getElem (by omega)
    have hb : l.stats[i + 1]? = some l.stats[i + 1] := List.getElem?_eq_getElem hl
    unfold tdF at h3
    rw [Nat.add_sub_cancel, tdAt_some hb, tdAt_some ha] at h3
    have hk := unlessE_ok (by omega) (firstE_all0 h3 (unlessE (decide (i + 1 = 0) || ltS l.stats[i].name l.stats[i + 1].name) 7) (by simp))
    have e1 : keyAt (l.stats.map TD.name) i = l.stats[i].name := keyAt_some (by rw [List.getElem?_map, ha]; rfl)
    have e2 : keyAt (l.stats.map TD.name) (i + 1) = l.stats[i + 1].name := keyAt_some (by rw [List.getElem?_map, hb]; rfl)
    rw [e1, e2]
    simpa using hk
/-- How often something was done: by a look at all. -/
def cntR (ts : List TD) (stat : ByteArray) : Int := ts.foldl (fun n t => if beqS t.name stat then t.count else n) 0
theorem fold_none {ts : List TD} {stat : ByteArray} (h : ∀ t ∈ ts, beqS t.name stat = false) (n : Int) : ts.foldl (fun n t => if beqS t.name stat then t.count else n) n = n := by
  induction ts generalizing n with
  | nil => rfl
  | cons t ts ih =>
    simp only [List.foldl_cons, h t (by simp), Bool.false_eq_true, if_false]
    exact ih (fun x hx => h x (by simp [hx])) n
theorem cnt_eq {ts : List TD} (hs : SortedK (ts.map TD.name)) (stat : ByteArray) : cntB ts stat = cntR ts stat := by
  unfold cntB
  by_cases hk : knownB (ts.map TD.name) stat = true
  · rw [if_pos hk]
    have hq := known_lt hk
    generalize hQ : bsI (ts.map TD.name) stat = q at hq
    have hql : q < ts.length := by simpa using hq
    have hb : beqS (keyAt (ts.map TD.name) q) stat = true := by
      unfold knownB at hk
      rw [Bool.and_eq_true, hQ] at hk
      exact hk.2
    have ht : ts[q]? = some ts[q] := List.getElem?_eq_getElem hql
    have hn : ∀ (i : Nat) (t : TD), ts[i]? = some t → keyAt (ts.map TD.name) i = t.name := fun i t h => keyAt_some (by rw [List.getElem?_map, h]; rfl)
    have hne : ∀ (i : Nat) (t : TD), i ≠ q → ts[i]? = some t → beqS t.name stat = false := by
      intro i t hi hit
      have hil := (List.getElem?_eq_some_iff.1 hit).1
      cases hh : beqS t.name stat
      · rfl
      · have e1 := beqS_iff.1 hh
        have e2 := beqS_iff.1 hb
        rw [← hn i t hit] at e1
        rcases Nat.lt_or_gt_of_ne hi with h | h
        · have := hs i q h (by simpa using hql)
          rw [e1, e2, ltS_irrefl] at this; cases this
        · have := hs q i h (by simpa using hil)
          rw [e1, e2, ltS_irrefl] at this; cases this
    have hsplit : ts = ts.take q ++ ts[q] :: ts.drop (q + 1) := by rw [← List.drop_eq_getElem_cons hql, List.take_append_drop]
    have htn : beqS ts[q].name stat = true := by rw [hn q _ ht] at hb; exact hb
    rw [tdAt_some ht]
    unfold cntR
    conv => rhs; rw [hsplit]
    rw [List.foldl_append, List.foldl_cons, if_pos htn, fold_none]
    intro t hm
    obtain ⟨j, hj⟩ := List.getElem?_of_mem hm
    rw [List.getElem?_drop] at hj
    exact hne _ t (by omega) hj
  · rw [if_neg hk]
    have hf : knownB (ts.map TD.name) stat = false := by simpa using hk
    rw [known_eq hs] at hf
    unfold cntR
    rw [fold_none]
    intro t ht
    unfold hasK at hf
    rw [List.any_eq_false] at hf
    have := hf t.name (List.mem_map.2 ⟨t, ht, rfl⟩)
    simpa using this
theorem cnt_small {ts : List TD} (h : ∀ t ∈ ts, -100000 ≤ t.count ∧ t.count ≤ 100000) (stat : ByteArray) : -100000 ≤ cntB ts stat ∧ cntB ts stat ≤ 100000 := by
  unfold cntB
  by_cases hk : knownB (ts.map TD.name) stat = true
  · rw [if_pos hk]
    have hq := known_lt hk
    rw [List.length_map] at hq
    rw [tdAt_some (List.getElem?_eq_getElem hq)]
    exact h _ (List.getElem_mem hq)
  · rw [if_neg hk]; omega
theorem mul_small {a b A B : Int} (ha : -A ≤ a ∧ a ≤ A) (hb : -B ≤ b ∧ b ≤ B) : -(A * B) ≤ a * b ∧ a * b ≤ A * B := by
  have h1 : a.natAbs ≤ A.natAbs := by omega
  have h2 : b.natAbs ≤ B.natAbs := by omega
  have h3 := Nat.mul_le_mul h1 h2
  rw [← Int.natAbs_mul, ← Int.natAbs_mul] at h3
  have h4 : 0 ≤ A * B := Int.mul_nonneg (by omega) (by omega)
  omega
/-- Right rules and a right line fit. -/
theorem fit_of {rs : List RD} {l : LD} (hr : chkRl rs = 0) (hl : lnE l = 0) : ∀ r ∈ rs, FitR l.stats r := by
  intro r hm
  obtain ⟨_, h2⟩ := rules_ok hr
  obtain ⟨h3, h4, h5⟩ := h2 r hm
  obtain ⟨w1, w2, w3, w4⟩ := wrongF_ok h5
  have hc := cnt_small (line_ok hl).1 r.stat
  have ht := times_small (kind := r.kind) hc h4
  have hg := mul_small (A := 1000000) (B := 100000) ⟨w3, w4⟩ ht
  exact ⟨w1, w2, ⟨w3, w4⟩, hc, h4, by unfold givenI; omega⟩
/-- How many times a rule gives its Worth, as the reference reckons. -/
def timesR (kind many n : Int) : Int := if kind = 1 then n else if kind = 2 ∧ 0 < n then n.tdiv many else if kind = 3 ∧ many ≤ n ∨ kind = 4 ∧ n = 0 then 1 else 0
theorem times_eq {kind many n : Int} (h : 1 ≤ kind ∧ kind ≤ 4) : timesI kind many n = timesR kind many n := by
  unfold timesI timesR onceI
  by_cases h1 : kind = 1
  · simp [h1]
  · by_cases h2 : kind = 2
    · subst h2
      by_cases hn : 0 < n
      · simp [hn, show max n 0 = n by omega]
      · simp [hn, show max n 0 = 0 by omega]
    · by_cases h3 : kind = 3
      · subst h3; simp
      · have h4 : kind = 4 := by omega
        subst h4; simp
def worthR (ks : List ByteArray) (ts : List TD) (r : RD) : Int := if appB ks r then timesR r.kind r.many (cntR ts r.stat) * (r.num * ((100 : Int).tdiv r.den)) else 0
theorem worth_eq {ks : List ByteArray} {ts : List TD} {r : RD} (hs : SortedK (ts.map TD.name)) (hk : 1 ≤ r.kind ∧ r.kind ≤ 4) : worthR ks ts r = if appB ks r then givenI ts r else 0 := by
  unfold worthR givenI
  rw [← cnt_eq hs, ← times_eq hk, Int.mul_comm]
theorem pts_eq {ks : List ByteArray} {ts : List TD} (hs : SortedK (ts.map TD.name)) : ∀ {rs : List RD}, (∀ r ∈ rs, 1 ≤ r.kind ∧ r.kind ≤ 4) → sumI (rs.map (worthR ks ts)) = ptsI rs ks ts
  | [], _ => rfl
  | r :: rs, h => by
    have ih := pts_eq (ks := ks) hs (rs := rs) fun x hx => h x (by simp [hx])
    unfold ptsI at ih ⊢
    rw [List.map_cons, sumI, ih, worth_eq hs (h r (by simp))]
    cases ha : appB ks r
    · simp [ha]
    · simp [ha, sumI]
theorem hun_low (p : Int) : (lowF p 100).1 * ((100 : Int).tdiv (lowF p 100).2) = p := by
  unfold lowF
  have hg : 0 < gcdI p 100 := gcdI_pos (by omega)
  have d1 : gcdI p 100 ∣ p := by unfold gcdI; exact Int.ofNat_dvd_left.2 (Nat.gcd_dvd_left _ _)
  have d2 : gcdI p 100 ∣ 100 := by unfold gcdI; exact Int.ofNat_dvd_left.2 (Nat.gcd_dvd_right _ _)
  generalize gcdI p 100 = g at hg d1 d2
  obtain ⟨m, rfl⟩ := d1
  obtain ⟨k, hk⟩ := d2
  have hk0 : 0 < k := by
    rcases Int.lt_or_le 0 k with h | h
    · exact h
    · have := Int.mul_nonpos_of_nonneg_of_nonpos (show 0 ≤ g by omega) h
      omega
  dsimp only
  rw [Int.mul_tdiv_cancel_left _ (by omega), show (100 : Int).tdiv g = k by rw [hk, Int.mul_tdiv_cancel_left _ (by omega)], show (100 : Int).tdiv k = g by rw [hk, Int.mul_comm g k, Int.mul_tdiv_cancel_left _ (by omega)], Int.mul_comm]
theorem low_64 {p : Int} (h : Int64 p) : Int64 (lowF p 100).1 ∧ 0 < (lowF p 100).2 ∧ (lowF p 100).2 ≤ 100 := by
  have hg : 0 < gcdI p 100 := gcdI_pos (by omega)
  refine ⟨tdiv_64 h hg, ?_, ?_⟩
  · show 0 < (100 : Int).tdiv (gcdI p 100)
    have d2 : gcdI p 100 ∣ 100 := by unfold gcdI; exact Int.ofNat_dvd_left.2 (Nat.gcd_dvd_right _ _)
    generalize gcdI p 100 = g at hg d2
    obtain ⟨k, hk⟩ := d2
    rw [hk, Int.mul_tdiv_cancel_left _ (by omega)]
    rcases Int.lt_or_le 0 k with h | h
    · exact h
    · have := Int.mul_nonpos_of_nonneg_of_nonpos (show 0 ≤ g by omega) h
      omega
  · show (100 : Int).tdiv (gcdI p 100) ≤ 100
    have h2 : ((100 : Int).tdiv (gcdI p 100)).natAbs ≤ (100 : Int).natAbs := by rw [Int.natAbs_tdiv]; exact Nat.div_le_self _ _
    omega
theorem pts_bound {rs : List RD} {ks : List ByteArray} {ts : List TD} (h : ∀ r ∈ rs, FitR ts r) (hn : rs.length ≤ 100) : -10000000000000 ≤ ptsI rs ks ts ∧ ptsI rs ks ts ≤ 10000000000000 := by
  have := sumI_bound (l := (rs.filter (appB ks)).map (givenI ts)) fun x hx => by
    obtain ⟨r, hr, rfl⟩ := List.mem_map.1 hx
    exact (h r ((List.mem_filter.1 hr).1)).giv
  have h2 := List.length_filter_le (appB ks) rs
  rw [List.length_map] at this
  unfold ptsI
  omega
end Go.Proofs.YthlfjfmlmcoihaaGreat
/- Plain facts of the reference's faults. -/
namespace Go.Proofs.YthlfjfmlmcoihaaGreat
open Go.RowKit

/-- The name before number k. -/
def lastR (rs : List RD) (k : Nat) : ByteArray := if k = 0 then ⟨#[]⟩ else (rlAt rs (k - 1)).key
def nmB (r : RD) : Bool := keyB r.key && keyB r.stat && (decide (r.pos.size = 0) || keyB r.pos)
def bndB (kind : Int) : Bool := kind == 2 || kind == 3
theorem rl_name {rs : List RD} {k : Nat} {r : RD} (h : rs[k]? = some r) (hn : nmB r = false) : rlF rs k = 5 := by
  unfold rlF
  rw [rlAt_some h]
  unfold nmB at hn
  cases h1 : keyB r.key <;> cases h2 : keyB r.stat <;> cases h3 : decide (r.pos.size = 0) <;> cases h4 : keyB r.pos <;> simp_all [unlessE, firstE]
theorem rl_ord {rs : List RD} {k : Nat} (h : keyB (rlAt rs k).key = true) : ltS (lastR rs k) (rlAt rs k).key = (decide (k = 0) || ltS (rlAt rs (k - 1)).key (rlAt rs k).key) := by
  unfold lastR
  by_cases h0 : k = 0
  · subst h0; simp [lt_empty h]
  · simp [h0]
theorem rl_order {rs : List RD} {k : Nat} {r : RD} (h : rs[k]? = some r) (hn : nmB r = true) (ho : ltS (lastR rs k) r.key = false) : rlF rs k = 7 := by
  have hk : keyB r.key = true := by unfold nmB at hn; revert hn; cases keyB r.key <;> simp
  have h2 := rl_ord (rs := rs) (k := k) (by rw [rlAt_some h]; exact hk)
  rw [rlAt_some h, ho] at h2
  unfold rlF
  rw [rlAt_some h, ← h2]
  unfold nmB at hn
  rw [Bool.and_eq_true, Bool.and_eq_true] at hn
  rw [hn.1.1, hn.1.2, hn.2]
  simp [unlessE, firstE]
theorem rl_rest {rs : List RD} {k : Nat} {r : RD} (h : rs[k]? = some r) (hn : nmB r = true) (ho : ltS (lastR rs k) r.key = true) : rlF rs k = firstE [unlessE (betwB r.kind 1 4) 4, unlessE (manyB r.kind r.many) 1, wrongF r.num r.den 10000] := by
  have hk : keyB r.key = true := by unfold nmB at hn; revert hn; cases keyB r.key <;> simp
  have h2 := rl_ord (rs := rs) (k := k) (by rw [rlAt_some h]; exact hk)
  rw [rlAt_some h, ho] at h2
  unfold rlF
  rw [rlAt_some h, ← h2]
  unfold nmB at hn
  rw [Bool.and_eq_true, Bool.and_eq_true] at hn
  rw [hn.1.1, hn.1.2, hn.2]
  simp [unlessE, firstE]
theorem eachE_hit {n k : Nat} {most : Int} {f : Nat → Int} (hm : (n : Int) ≤ most) (hk : k < n) (h0 : ∀ i, i < k → f i = 0) (h : f k ≠ 0) : eachE n most f = f k := by
  unfold eachE
  rw [if_neg (by omega), Int.toNat_natCast]
  exact errsTo_hit hk h0 h
theorem eachE_none {n : Nat} {most : Int} {f : Nat → Int} (hm : (n : Int) ≤ most) (h0 : ∀ i, i < n → f i = 0) : eachE n most f = 0 := by
  unfold eachE
  rw [if_neg (by omega), Int.toNat_natCast]
  exact errsTo_none h0
theorem many_bnd (kind many : Int) : manyB kind many = if bndB kind then betwB many 1 100000 else many == 0 := by
  unfold manyB bndB
  by_cases h2 : kind = 2
  · simp [h2]
  · by_cases h3 : kind = 3
    · simp [h3]
    · simp [h2, h3]
end Go.Proofs.YthlfjfmlmcoihaaGreat
/- SlotsFault: what is wrong with slots. -/
namespace Go.Proofs.YthlfjfmlmcoihaaGreat
open Go.RowKit

theorem rows_take {w : World} {T lo sz g off n c m : Nat} {rows : List (List Value)} (h : Rows w T lo sz (.slice (some ⟨g, off, none⟩) n c) rows) (hn : n = rows.length) (hm : m ≤ n) : Rows w T lo sz (.slice (some ⟨g, off, none⟩) m c) (rows.take m) := by
  have hf := h.fits
  have e0 : (rows.take m).length = m := by simp; omega
  have hsm := h.small
  rcases h.shape with ⟨e, _⟩ | ⟨g', off', cap, cur, fr, e, h2, h3, h4⟩
  · cases e
  · simp only [Value.slice.injEq, Option.some.injEq, Addr.mk.injEq, and_true] at e
    obtain ⟨⟨rfl, rfl⟩, _, rfl⟩ := e
    refine ⟨by omega, fun r hr => h.each r (List.mem_of_mem_take hr), .inr ⟨g, off, c, cur, fr, by rw [e0], ⟨h2.1, by rw [e0]; omega⟩, h3, fun i j u hu => ?_⟩⟩
    refine h4 i j u ?_
    rw [List.getElem?_take] at hu
    split at hu
    · exact hu
    · simp at hu
theorem nrows_take {α : Type} {row : α → Value → List Value} {pos : α → List ByteArray} {w : World} {T lo sz g off n c m : Nat} {xs : List α} (h : NRows row pos w T lo sz (.slice (some ⟨g, off, none⟩) n c) xs) (hn : n = xs.length) (hm : m ≤ n) : NRows row pos w T lo sz (.slice (some ⟨g, off, none⟩) m c) (xs.take m) := by
  obtain ⟨pvs, hl, hr, hp⟩ := h
  refine ⟨pvs.take m, by simp; omega, ?_, fun i x a hx ha => ?_⟩
  · have := rows_take (m := m) hr (by rw [nRows_length hl]; exact hn) hm
    unfold nRows at this ⊢
    rw [List.take_zipWith] at this
    exact this
  · rw [List.getElem?_take] at hx ha
    split at hx
    · rw [if_pos (by assumption)] at ha
      exact hp i x a hx ha
    · cases hx
def slAt (xs : List SlD) (i : Nat) : SlD := xs[i]?.getD ⟨⟨#[]⟩, []⟩
theorem slAt_some {xs : List SlD} {i : Nat} {s : SlD} (h : xs[i]? = some s) : slAt xs i = s := by simp [slAt, h]
def earB (xs : List SlD) (i : Nat) (k : ByteArray) : Bool := (xs.take i).any fun y => beqS y.key k
/-- What is wrong with slot i. -/
def slF (xs : List SlD) (i : Nat) : Int := firstE [unlessE (keyB (slAt xs i).key) 5, unlessE (!earB xs i (slAt xs i).key) 6, poE (slAt xs i).pos]
def chkSl (xs : List SlD) : Int := firstE [unlessE (decide (0 < xs.length)) 8, eachE xs.length 12 (slF xs)]
theorem slotsFault1_calls (f : SlD) (k : ByteArray) (xa : Option Addr) (n c X : Nat) (w : World) (hX : w.cell? ⟨X, 0, none⟩ = some (.string k)) :
    Calls Tryz.prog 63 #[.agg #[.string f.key, .slice xa n c], .pointer (some ⟨X, 0, none⟩)] w (BoolIs (beqS f.key k) w) := by
  go_enter Tryz.func63, Tryz.ntmps63
  have hX1 := below_cell (below_alloc w (.cells #[.string f.key, .slice xa n c] 78)) hX
  go_wp2_with fail
  go_ret
  exact ⟨ret_bool (by unfold beqS; rfl), below_alloc w _⟩
set_option maxRecDepth 100000 in
set_option maxHeartbeats 8000000 in
theorem slotsFault_calls (lo : Nat) (v : Value) (xs : List SlD) (w : World) (hR : Sls w lo v xs) (hs : ∀ c ∈ xs, SmallSl c) :
    Calls Tryz.prog 14 #[v] w (IntBelow (chkSl xs) w) := by
  rcases sls_at hR with ⟨rfl, rfl⟩ | ⟨g, off, cap, rfl, _, hg, hn, hcell⟩
  · clear hR hs
    go_enter Tryz.func14, Tryz.ntmps14
    go_wp2_with fail
    go_ret
    exact ⟨rfl, Below.refl _ _⟩
  have Hs := Lib.hid hs
  have Hc := Lib.hid hcell
  have HR := Lib.hid hR
  clear hs hcell hR
  by_cases h0 : xs.length = 0
  · have HN := Lib.hid (show chkSl xs = 8 by unfold chkSl; rw [h0]; rfl)
    have e0 : ((xs.length : Int) == 0) = true := by rw [beq_iff_eq]; omega
    clear h0
    go_enter Tryz.func14, Tryz.ntmps14
    go_wp2_with fail
    go_ret
    exact ⟨ret_int HN.out.symm, Below.refl _ _⟩
  have e0 : ((xs.length : Int) == 0) = false := by rw [beq_eq_false_iff_ne]; omega
  have HE := Lib.hid (show chkSl xs = eachE xs.length 12 (slF xs) by
    unfold chkSl
    rw [decide_eq_true (show 0 < xs.length by omega)]
    simp [unlessE, firstE]
    exact fun h => h.symm)
  rw [HE.out]
  clear h0
  by_cases hm : xs.length ≤ 12
  · have Hm := Lib.hid (show (xs.length : Int) ≤ 12 by omega)
    go_enter Tryz.func14, Tryz.ntmps14
    go_wp2_with fail
    clear e0
    go_loopw [16] (fun i wr => ∃ k : Nat, k ≤ xs.length ∧ i = .int .i64 k ∧ Hid (∀ i, i < k → slF xs i = 0) ∧ Below w.heap.size w wr) (fun i _ => xs.length - (intOf i).toNat)
    case atStart => exact ⟨0, Nat.zero_le _, rfl, Lib.hid (fun i hi => by omega), Below.refl _ _⟩
    case round =>
      obtain ⟨k, hk, rfl, H0, hb⟩ := hrel
      by_cases hlt : k < xs.length
      · obtain ⟨c, hc⟩ : ∃ c, xs[k]? = some c := ⟨xs[k], List.getElem?_eq_getElem hlt⟩
        obtain ⟨s1, s2, s3⟩ := Hs.out c (List.mem_of_getElem? hc)
        have HF := Lib.hid (show slF xs k = firstE [unlessE (keyB c.key) 5, unlessE (!earB xs k c.key) 6, lfE true c.pos] by unfold slF; rw [slAt_some hc, poE_eq])
        have Hhit := Lib.hid (fun (h : slF xs k ≠ 0) => (show eachE xs.length 12 (slF xs) = slF xs k from eachE_hit Hm.out hlt H0.out h))
        have Hnext := Lib.hid (fun (h : slF xs k = 0) i (hi : i < k + 1) => (show slF xs i = 0 by
          rcases Nat.lt_succ_iff_lt_or_eq.1 hi with h' | rfl
          · exact H0.out i h'
          · exact h))
        obtain ⟨pv, q0, q1, hpv⟩ := Hc.out k c hc
        obtain ⟨pa, pc, rfl⟩ := strs_shape hpv
        have p0 := below_cell hb q0
        have p1 := below_cell hb q1
        have HL := Lib.hid (fun w' (hb' : Below w.heap.size w w') => listFault_calls true lo _ c.pos w' (hpv.below hb') s3 (by omega))
        have HT := Lib.hid (fun w' (hb' : Below w.heap.size w w') => (show Sls w' lo (.slice (some ⟨g, off, none⟩) k cap) (xs.take k) from NRows.below (nrows_take HR.out rfl (by omega)) hb'))
        have hfit : xs.length ≤ cap := by obtain ⟨_, hl, hr, _⟩ := HR.out; exact Rows.fits hr
        clear hc s2 s3 q0 q1 hpv
        go_upto_region 8 with fail
        obtain ⟨wA, hwA⟩ : ∃ wA, wA = wr.alloc (.cells #[.string c.key, .slice pa c.pos.length pc] 78) := ⟨_, rfl⟩
        obtain ⟨X, hX⟩ : ∃ X, X = wr.heap.size := ⟨_, rfl⟩
        have hbA : Below w.heap.size w wA := by rw [hwA]; exact below_step hb (below_alloc wr _)
        have hx : wA.heap[X]? = some (.cells #[.string c.key, .slice pa c.pos.length pc] 78 (0, 0)) := by rw [hwA, hX]; exact heap_alloc_new wr _
        rw [← hwA, ← hX]
        have x0 := cell_at hx 0 rfl
        have x1 := cell_at hx 1 rfl
        have HbA := Lib.hid hbA
        have HC := Lib.hid (containsSl_calls 63 #[.pointer (some ⟨X, 0, none⟩)] (fun y => beqS y.key c.key) lo _ (xs.take k) wA (HT.out wA hbA) (by intro args w; go_simp) (fun W f xa xc hb => slotsFault1_calls f c.key xa _ xc X W (below_cell hb x0)))
        have HEB := Lib.hid (show (xs.take k).any (fun y => beqS y.key c.key) = earB xs k c.key from rfl)
        rw [HEB.out] at HC
        have Hx := Lib.hid hx
        have hkc : k ≤ cap := by omega
        clear hwA hX hbA hx hb p0 p1 HT HEB
        cases hnm : keyB c.key
        · have HN := Lib.hid (show slF xs k = 5 by rw [HF.out, hnm]; simp [unlessE, firstE])
          have HK := Lib.hid hnm
          clear hnm
          go_wp2_with fail
          refine (keyR_calls _ _ (by omega)).mono ?_
          rintro e w' ⟨rfl, rfl⟩
          rw [HK.out]
          go_wp2_with fail
          go_ret
          exact ⟨ret_int (by rw [Hhit.out (by rw [HN.out]; omega), HN.out]), HbA.out⟩
        · have HK := Lib.hid hnm
          clear hnm
          go_wp2_with fail
          refine (keyR_calls _ _ (by omega)).mono ?_
          rintro e w' ⟨rfl, rfl⟩
          rw [HK.out]
          go_wp2_with fail
          refine HC.out.mono ?_
          rintro e w2 ⟨rfl, hb2⟩
          have hx2 := cells_later Hx.out hb2
          have z0 := cell_at hx2 0 rfl
          have z1 := cell_at hx2 1 rfl
          have hb02 := below_step HbA.out hb2
          clear hx2 hb2
          cases he : earB xs k c.key
          · have HRE := Lib.hid (show slF xs k = lfE true c.pos by rw [HF.out, HK.out, he]; simp [unlessE, firstE]; exact fun h => h.symm)
            clear he
            go_wp2_with fail
            refine (HL.out w2 hb02).mono ?_
            rintro e w' ⟨rfl, rfl⟩
            rw [← HRE.out]
            by_cases hz : slF xs k = 0
            · have e2 : (slF xs k != 0) = false := by simp [hz]
              have HN := Lib.hid (Hnext.out hz)
              clear hz
              go_wp2_with fail
              go_roundw
              case rel => exact ⟨k + 1, by omega, by go_num, HN, hb02⟩
              case measure => simp [intOf]; omega
            · have e2 : (slF xs k != 0) = true := by simp [hz]
              have HN := Lib.hid (Hhit.out hz)
              clear hz
              go_wp2_with fail
              go_ret
              exact ⟨ret_int HN.out.symm, hb02⟩
          · have HN := Lib.hid (show slF xs k = 6 by rw [HF.out, HK.out, he]; simp [unlessE, firstE])
            clear he
            go_wp2_with fail
            go_ret
            exact ⟨ret_int (by rw [Hhit.out (by rw [HN.out]; omega), HN.out]), hb02⟩
      · obtain rfl : k = xs.length := by omega
        have HN := Lib.hid (show eachE xs.length 12 (slF xs) = 0 from eachE_none Hm.out H0.out)
        go_wp2_with fail
        go_ret
        exact ⟨ret_int HN.out.symm, hb⟩
  · have HN := Lib.hid (show eachE xs.length 12 (slF xs) = 2 by unfold eachE; rw [if_pos (by omega)])
    go_enter Tryz.func14, Tryz.ntmps14
    go_wp2_with fail
    go_ret
    exact ⟨ret_int HN.out.symm, Below.refl _ _⟩
end Go.Proofs.YthlfjfmlmcoihaaGreat
namespace Go.Proofs.YthlfjfmlmcoihaaGreat
open Go.RowKit

theorem checkSlots11_calls (f : SlD) (k : ByteArray) (xa : Option Addr) (n c X : Nat) (w : World) (hX : w.cell? ⟨X, 0, none⟩ = some (.string k)) :
    Calls Tryz.prog 77 #[.agg #[.string f.key, .slice xa n c], .pointer (some ⟨X, 0, none⟩)] w (BoolIs (beqS f.key k) w) := by
  go_enter Tryz.func77, Tryz.ntmps77
  have hX1 := below_cell (below_alloc w (.cells #[.string f.key, .slice xa n c] 78)) hX
  go_wp2_with fail
  go_ret
  exact ⟨ret_bool (by unfold beqS; rfl), below_alloc w _⟩
theorem nums3s (w : World) (T : Nat) (a b c : Int) : NumsAt (w.alloc (.cells #[.int .i64 a, .int .i64 b, .int .i64 c] T)) w.heap.size 0 [a, b, c] := by
  intro i x hx
  rw [World.cell?_alloc_at _ _ _ _ rfl]
  match i, hx with
  | 0, hx => simp at hx; subst hx; rfl
  | 1, hx => simp at hx; subst hx; rfl
  | 2, hx => simp at hx; subst hx; rfl
def ops_76_3 : Array Go.Oper := #[
  { dst := some 15, op := Go.Op.fieldAddr 78 (Go.Operand.tmp 4) 0, type := 0, pos := "lineup.go:20", after := #[], guard := none },
  { dst := some 16, op := Go.Op.load 9 (Go.Operand.tmp 15), type := 9, pos := "lineup.go:20", after := #[{ on := 0, ground := Go.Ground.data }], guard := none },
  { dst := some 17, op := Go.Op.call { callee := Go.Callee.value (Go.Operand.func 78), args := #[Go.Operand.tmp 16], argTypes := #[9] }, type := 4, pos := "lineup.go:21", after := #[{ on := 1, ground := Go.Ground.data }], guard := none },
  { dst := some 18, op := Go.Op.call { callee := Go.Callee.value (Go.Operand.func 54), args := #[Go.Operand.tmp 17, Go.Operand.const (Go.Value.int Go.IntKind.i64 5)], argTypes := #[4, 35] }, type := 35, pos := "lineup.go:21", after := #[{ on := 2, ground := Go.Ground.data }, { on := 2, ground := Go.Ground.chain }], guard := none },
  { dst := some 19, op := Go.Op.move (Go.Operand.tmp 5), type := 4, pos := "lineup.go:20", after := #[], guard := none },
  { dst := some 20, op := Go.Op.unOp Go.UnOp.not 4 (Go.Operand.tmp 19), type := 4, pos := "lineup.go:20", after := #[{ on := 4, ground := Go.Ground.data }], guard := none },
  { dst := some 21, op := Go.Op.call { callee := Go.Callee.value (Go.Operand.func 54), args := #[Go.Operand.tmp 20, Go.Operand.const (Go.Value.int Go.IntKind.i64 6)], argTypes := #[4, 35] }, type := 35, pos := "lineup.go:22", after := #[{ on := 5, ground := Go.Ground.data }, { on := 3, ground := Go.Ground.chain }], guard := none },
  { dst := some 22, op := Go.Op.fieldAddr 78 (Go.Operand.tmp 4) 1, type := 0, pos := "lineup.go:20", after := #[], guard := none },
  { dst := some 23, op := Go.Op.load 39 (Go.Operand.tmp 22), type := 39, pos := "lineup.go:20", after := #[{ on := 7, ground := Go.Ground.data }], guard := none },
  { dst := some 24, op := Go.Op.call { callee := Go.Callee.value (Go.Operand.func 79), args := #[Go.Operand.tmp 23], argTypes := #[39] }, type := 35, pos := "lineup.go:23", after := #[{ on := 8, ground := Go.Ground.data }, { on := 6, ground := Go.Ground.chain }], guard := none },
  { dst := some 25, op := Go.Op.buildSlice 95 3 #[(0, Go.Operand.tmp 18), (1, Go.Operand.tmp 21), (2, Go.Operand.tmp 24)], type := 95, pos := "lineup.go:20", after := #[{ on := 3, ground := Go.Ground.data }, { on := 6, ground := Go.Ground.data }, { on := 9, ground := Go.Ground.data }], guard := none },
  { dst := some 26, op := Go.Op.call { callee := Go.Callee.value (Go.Operand.func 53), args := #[Go.Operand.tmp 25], argTypes := #[95] }, type := 35, pos := "lineup.go:20", after := #[{ on := 10, ground := Go.Ground.data }, { on := 9, ground := Go.Ground.chain }], guard := none },
  { dst := some 3, op := Go.Op.assign (Go.Operand.tmp 26), type := 35, pos := "lineup.go:20", after := #[{ on := 11, ground := Go.Ground.data }, { on := 11, ground := Go.Ground.chain }, { on := 0, ground := Go.Ground.phase }, { on := 1, ground := Go.Ground.phase }, { on := 2, ground := Go.Ground.phase }, { on := 3, ground := Go.Ground.phase }, { on := 4, ground := Go.Ground.phase }, { on := 5, ground := Go.Ground.phase }, { on := 6, ground := Go.Ground.phase }, { on := 7, ground := Go.Ground.phase }, { on := 8, ground := Go.Ground.phase }, { on := 9, ground := Go.Ground.phase }, { on := 10, ground := Go.Ground.phase }, { on := 11, ground := Go.Ground.phase }], guard := none }]
theorem ops_76_3_0 : ops_76_3[0]? = some ({ dst := some 15, op := Go.Op.fieldAddr 78 (Go.Operand.tmp 4) 0, type := 0, pos := "lineup.go:20", after := #[], guard := none } : Go.Oper) := rfl
theorem ops_76_3_1 : ops_76_3[1]? = some ({ dst := some 16, op := Go.Op.load 9 (Go.Operand.tmp 15), type := 9, pos := "lineup.go:20", after := #[{ on := 0, ground := Go.Ground.data }], guard := none } : Go.Oper) := rfl
theorem ops_76_3_2 : ops_76_3[2]? = some ({ dst := some 17, op := Go.Op.call { callee := Go.Callee.value (Go.Operand.func 78), args := #[Go.Operand.tmp 16], argTypes := #[9] }, type := 4, pos := "lineup.go:21", after := #[{ on := 1, ground := Go.Ground.data }], guard := none } : Go.Oper) := rfl
theorem ops_76_3_3 : ops_76_3[3]? = some ({ dst := some 18, op := Go.Op.call { callee := Go.Callee.value (Go.Operand.func 54), args := #[Go.Operand.tmp 17, Go.Operand.const (Go.Value.int Go.IntKind.i64 5)], argTypes := #[4, 35] }, type := 35, pos := "lineup.go:21", after := #[{ on := 2, ground := Go.Ground.data }, { on := 2, ground := Go.Ground.chain }], guard := none } : Go.Oper) := rfl
theorem ops_76_3_4 : ops_76_3[4]? = some ({ dst := some 19, op := Go.Op.move (Go.Operand.tmp 5), type := 4, pos := "lineup.go:20", after := #[], guard := none } : Go.Oper) := rfl
theorem ops_76_3_5 : ops_76_3[5]? = some ({ dst := some 20, op := Go.Op.unOp Go.UnOp.not 4 (Go.Operand.tmp 19), type := 4, pos := "lineup.go:20", after := #[{ on := 4, ground := Go.Ground.data }], guard := none } : Go.Oper) := rfl
theorem ops_76_3_6 : ops_76_3[6]? = some ({ dst := some 21, op := Go.Op.call { callee := Go.Callee.value (Go.Operand.func 54), args := #[Go.Operand.tmp 20, Go.Operand.const (Go.Value.int Go.IntKind.i64 6)], argTypes := #[4, 35] }, type := 35, pos := "lineup.go:22", after := #[{ on := 5, ground := Go.Ground.data }, { on := 3, ground := Go.Ground.chain }], guard := none } : Go.Oper) := rfl
theorem ops_76_3_7 : ops_76_3[7]? = some ({ dst := some 22, op := Go.Op.fieldAddr 78 (Go.Operand.tmp 4) 1, type := 0, pos := "lineup.go:20", after := #[], guard := none } : Go.Oper) := rfl
theorem ops_76_3_8 : ops_76_3[8]? = some ({ dst := some 23, op := Go.Op.load 39 (Go.Operand.tmp 22), type := 39, pos := "lineup.go:20", after := #[{ on := 7, ground := Go.Ground.data }], guard := none } : Go.Oper) := rfl
theorem ops_76_3_9 : ops_76_3[9]? = some ({ dst := some 24, op := Go.Op.call { callee := Go.Callee.value (Go.Operand.func 79), args := #[Go.Operand.tmp 23], argTypes := #[39] }, type := 35, pos := "lineup.go:23", after := #[{ on := 8, ground := Go.Ground.data }, { on := 6, ground := Go.Ground.chain }], guard := none } : Go.Oper) := rfl
theorem ops_76_3_10 : ops_76_3[10]? = some ({ dst := some 25, op := Go.Op.buildSlice 95 3 #[(0, Go.Operand.tmp 18), (1, Go.Operand.tmp 21), (2, Go.Operand.tmp 24)], type := 95, pos := "lineup.go:20", after := #[{ on := 3, ground := Go.Ground.data }, { on := 6, ground := Go.Ground.data }, { on := 9, ground := Go.Ground.data }], guard := none } : Go.Oper) := rfl
theorem ops_76_3_11 : ops_76_3[11]? = some ({ dst := some 26, op := Go.Op.call { callee := Go.Callee.value (Go.Operand.func 53), args := #[Go.Operand.tmp 25], argTypes := #[95] }, type := 35, pos := "lineup.go:20", after := #[{ on := 10, ground := Go.Ground.data }, { on := 9, ground := Go.Ground.chain }], guard := none } : Go.Oper) := rfl
theorem ops_76_3_12 : ops_76_3[12]? = some ({ dst := some 3, op := Go.Op.assign (Go.Operand.tmp 26), type := 35, pos := "lineup.go:20", after := #[{ on := 11, ground := Go.Ground.data }, { on := 11, ground := Go.Ground.chain }, { on := 0, ground := Go.Ground.phase }, { on := 1, ground := Go.Ground.phase }, { on := 2, ground := Go.Ground.phase }, { on := 3, ground := Go.Ground.phase }, { on := 4, ground := Go.Ground.phase }, { on := 5, ground := Go.Ground.phase }, { on := 6, ground := Go.Ground.phase }, { on := 7, ground := Go.Ground.phase }, { on := 8, ground := Go.Ground.phase }, { on := 9, ground := Go.Ground.phase }, { on := 10, ground := Go.Ground.phase }, { on := 11, ground := Go.Ground.phase }], guard := none } : Go.Oper) := rfl
theorem ops_76_3_ns : Go.Region.noSelect ops_76_3 = true := by kernel_rfl
def ops_24_1 : Array Go.Oper := #[
  { dst := some 3, op := Go.Op.load 26 (Go.Operand.tmp 1), type := 26, pos := "lineup.go:15", after := #[], guard := none },
  { dst := some 4, op := Go.Op.call { callee := Go.Callee.builtin Go.Builtin.len, args := #[Go.Operand.tmp 3], argTypes := #[26] }, type := 3, pos := "lineup.go:15", after := #[{ on := 0, ground := Go.Ground.data }], guard := none },
  { dst := some 5, op := Go.Op.binOp Go.BinOp.gtr 3 (Go.Operand.tmp 4) (Go.Operand.const (Go.Value.int Go.IntKind.i64 0)) 3, type := 4, pos := "lineup.go:15", after := #[{ on := 1, ground := Go.Ground.data }], guard := none },
  { dst := some 6, op := Go.Op.call { callee := Go.Callee.value (Go.Operand.func 54), args := #[Go.Operand.tmp 5, Go.Operand.const (Go.Value.int Go.IntKind.i64 8)], argTypes := #[4, 35] }, type := 35, pos := "lineup.go:16", after := #[{ on := 2, ground := Go.Ground.data }], guard := none },
  { dst := some 7, op := Go.Op.load 26 (Go.Operand.tmp 1), type := 26, pos := "lineup.go:15", after := #[], guard := none },
  { dst := some 8, op := Go.Op.call { callee := Go.Callee.builtin Go.Builtin.len, args := #[Go.Operand.tmp 7], argTypes := #[26] }, type := 3, pos := "lineup.go:15", after := #[{ on := 4, ground := Go.Ground.data }], guard := none },
  { dst := some 9, op := Go.Op.makeFunc (Go.Fn.func 76) #[] #[Go.Operand.tmp 1], type := 114, pos := "lineup.go:15", after := #[], guard := none },
  { dst := some 10, op := Go.Op.call { callee := Go.Callee.value (Go.Operand.func 75), args := #[Go.Operand.tmp 8, Go.Operand.const (Go.Value.int Go.IntKind.i64 12), Go.Operand.tmp 9], argTypes := #[3, 3, 114] }, type := 35, pos := "lineup.go:17", after := #[{ on := 5, ground := Go.Ground.data }, { on := 6, ground := Go.Ground.data }, { on := 3, ground := Go.Ground.chain }], guard := none },
  { dst := some 11, op := Go.Op.buildSlice 95 2 #[(0, Go.Operand.tmp 6), (1, Go.Operand.tmp 10)], type := 95, pos := "lineup.go:15", after := #[{ on := 3, ground := Go.Ground.data }, { on := 7, ground := Go.Ground.data }], guard := none },
  { dst := some 12, op := Go.Op.call { callee := Go.Callee.value (Go.Operand.func 53), args := #[Go.Operand.tmp 11], argTypes := #[95] }, type := 35, pos := "lineup.go:15", after := #[{ on := 8, ground := Go.Ground.data }, { on := 7, ground := Go.Ground.chain }], guard := none },
  { dst := some 2, op := Go.Op.assign (Go.Operand.tmp 12), type := 35, pos := "lineup.go:15", after := #[{ on := 9, ground := Go.Ground.data }, { on := 9, ground := Go.Ground.chain }, { on := 0, ground := Go.Ground.phase }, { on := 1, ground := Go.Ground.phase }, { on := 2, ground := Go.Ground.phase }, { on := 3, ground := Go.Ground.phase }, { on := 4, ground := Go.Ground.phase }, { on := 5, ground := Go.Ground.phase }, { on := 6, ground := Go.Ground.phase }, { on := 7, ground := Go.Ground.phase }, { on := 8, ground := Go.Ground.phase }, { on := 9, ground := Go.Ground.phase }], guard := none }]
theorem ops_24_1_0 : ops_24_1[0]? = some ({ dst := some 3, op := Go.Op.load 26 (Go.Operand.tmp 1), type := 26, pos := "lineup.go:15", after := #[], guard := none } : Go.Oper) := rfl
theorem ops_24_1_1 : ops_24_1[1]? = some ({ dst := some 4, op := Go.Op.call { callee := Go.Callee.builtin Go.Builtin.len, args := #[Go.Operand.tmp 3], argTypes := #[26] }, type := 3, pos := "lineup.go:15", after := #[{ on := 0, ground := Go.Ground.data }], guard := none } : Go.Oper) := rfl
theorem ops_24_1_2 : ops_24_1[2]? = some ({ dst := some 5, op := Go.Op.binOp Go.BinOp.gtr 3 (Go.Operand.tmp 4) (Go.Operand.const (Go.Value.int Go.IntKind.i64 0)) 3, type := 4, pos := "lineup.go:15", after := #[{ on := 1, ground := Go.Ground.data }], guard := none } : Go.Oper) := rfl
theorem ops_24_1_3 : ops_24_1[3]? = some ({ dst := some 6, op := Go.Op.call { callee := Go.Callee.value (Go.Operand.func 54), args := #[Go.Operand.tmp 5, Go.Operand.const (Go.Value.int Go.IntKind.i64 8)], argTypes := #[4, 35] }, type := 35, pos := "lineup.go:16", after := #[{ on := 2, ground := Go.Ground.data }], guard := none } : Go.Oper) := rfl
theorem ops_24_1_4 : ops_24_1[4]? = some ({ dst := some 7, op := Go.Op.load 26 (Go.Operand.tmp 1), type := 26, pos := "lineup.go:15", after := #[], guard := none } : Go.Oper) := rfl
theorem ops_24_1_5 : ops_24_1[5]? = some ({ dst := some 8, op := Go.Op.call { callee := Go.Callee.builtin Go.Builtin.len, args := #[Go.Operand.tmp 7], argTypes := #[26] }, type := 3, pos := "lineup.go:15", after := #[{ on := 4, ground := Go.Ground.data }], guard := none } : Go.Oper) := rfl
theorem ops_24_1_6 : ops_24_1[6]? = some ({ dst := some 9, op := Go.Op.makeFunc (Go.Fn.func 76) #[] #[Go.Operand.tmp 1], type := 114, pos := "lineup.go:15", after := #[], guard := none } : Go.Oper) := rfl
theorem ops_24_1_7 : ops_24_1[7]? = some ({ dst := some 10, op := Go.Op.call { callee := Go.Callee.value (Go.Operand.func 75), args := #[Go.Operand.tmp 8, Go.Operand.const (Go.Value.int Go.IntKind.i64 12), Go.Operand.tmp 9], argTypes := #[3, 3, 114] }, type := 35, pos := "lineup.go:17", after := #[{ on := 5, ground := Go.Ground.data }, { on := 6, ground := Go.Ground.data }, { on := 3, ground := Go.Ground.chain }], guard := none } : Go.Oper) := rfl
theorem ops_24_1_8 : ops_24_1[8]? = some ({ dst := some 11, op := Go.Op.buildSlice 95 2 #[(0, Go.Operand.tmp 6), (1, Go.Operand.tmp 10)], type := 95, pos := "lineup.go:15", after := #[{ on := 3, ground := Go.Ground.data }, { on := 7, ground := Go.Ground.data }], guard := none } : Go.Oper) := rfl
theorem ops_24_1_9 : ops_24_1[9]? = some ({ dst := some 12, op := Go.Op.call { callee := Go.Callee.value (Go.Operand.func 53), args := #[Go.Operand.tmp 11], argTypes := #[95] }, type := 35, pos := "lineup.go:15", after := #[{ on := 8, ground := Go.Ground.data }, { on := 7, ground := Go.Ground.chain }], guard := none } : Go.Oper) := rfl
theorem ops_24_1_10 : ops_24_1[10]? = some ({ dst := some 2, op := Go.Op.assign (Go.Operand.tmp 12), type := 35, pos := "lineup.go:15", after := #[{ on := 9, ground := Go.Ground.data }, { on := 9, ground := Go.Ground.chain }, { on := 0, ground := Go.Ground.phase }, { on := 1, ground := Go.Ground.phase }, { on := 2, ground := Go.Ground.phase }, { on := 3, ground := Go.Ground.phase }, { on := 4, ground := Go.Ground.phase }, { on := 5, ground := Go.Ground.phase }, { on := 6, ground := Go.Ground.phase }, { on := 7, ground := Go.Ground.phase }, { on := 8, ground := Go.Ground.phase }, { on := 9, ground := Go.Ground.phase }], guard := none } : Go.Oper) := rfl
theorem ops_24_1_ns : Go.Region.noSelect ops_24_1 = true := by kernel_rfl
set_option maxRecDepth 100000 in
set_option maxHeartbeats 16000000 in
theorem checkSlots1_calls (b g off cap i lo : Nat) (xs : List SlD) (c : SlD) (w : World) (hi : xs[i]? = some c) (hs : SmallSl c) (hn : xs.length ≤ 1000000)
    (h1 : w.cell? ⟨b, 0, none⟩ = some (.slice (some ⟨g, off, none⟩) xs.length cap)) (hR : Sls w lo (.slice (some ⟨g, off, none⟩) xs.length cap) xs) :
    Calls Tryz.prog 76 #[.int .i64 (i : Int), .pointer (some ⟨b, 0, none⟩)] w (IntBelow (slF xs i) w) := by
  have hlt : i < xs.length := (List.getElem?_eq_some_iff.1 hi).1
  rcases sls_at hR with ⟨h, _⟩ | ⟨g', off', cap', e, _, _, _, hcell⟩
  · cases h
  simp only [Value.slice.injEq, Option.some.injEq, Addr.mk.injEq, and_true, true_and] at e
  obtain ⟨⟨rfl, rfl⟩, rfl⟩ := e
  obtain ⟨pv, q0, q1, hpv⟩ := hcell i c hi
  obtain ⟨pa, pc, rfl⟩ := strs_shape hpv
  have hfit : xs.length ≤ cap := by obtain ⟨_, hl, hr, _⟩ := hR; exact Rows.fits hr
  obtain ⟨W, hW⟩ : ∃ W, W = w.alloc (.cells #[.string c.key, .slice pa c.pos.length pc] 78) := ⟨_, rfl⟩
  have hwW : Below w.heap.size w W := by rw [hW]; exact below_alloc w _
  have hx : W.heap[w.heap.size]? = some (.cells #[.string c.key, .slice pa c.pos.length pc] 78 (0, 0)) := by rw [hW]; exact heap_alloc_new w _
  have x0 := cell_at hx 0 rfl
  have x1 := cell_at hx 1 rfl
  have c1 := below_cell hwW h1
  obtain ⟨hs1, hs2, hs3⟩ := hs
  have HP := Lib.hid (show ∀ w', Below w.heap.size w w' → Calls Tryz.prog 79 #[.slice pa c.pos.length pc] w' (IntBelow (poE c.pos) w') from fun w' hb => positions_calls lo _ c.pos w' (hpv.below hb) hs3 (by omega))
  have HC := Lib.hid (containsSl_calls 77 #[.pointer (some ⟨w.heap.size, 0, none⟩)] (fun y => beqS y.key c.key) lo _ (xs.take i) W (NRows.below (nrows_take hR rfl (by omega : i ≤ xs.length)) hwW) (by intro args w; go_simp) (fun V f xa xc hb => checkSlots11_calls f c.key xa _ xc w.heap.size V (below_cell hb x0)))
  have HEB := Lib.hid (show (xs.take i).any (fun y => beqS y.key c.key) = earB xs i c.key from rfl)
  rw [HEB.out] at HC
  have Hr := Lib.hid (show slF xs i = firstE [unlessE (keyB c.key) 5, unlessE (!earB xs i c.key) 6, poE c.pos] by unfold slF; rw [slAt_some hi])
  have Hx := Lib.hid hx
  have hic : i ≤ cap := by omega
  have hil : i ≤ xs.length := by omega
  generalize earB xs i c.key = eb at HC Hr
  clear hs2 hs3 hx hpv hR hcell hi HEB
  go_enter Tryz.func76, Tryz.ntmps76
  go_upto_region 2 with fail
  rw [← hW]
  clear hW
  go_wp2_with fail
  refine HC.out.mono ?_
  rintro e w2 ⟨rfl, hb2⟩
  have hx2 := cells_later Hx.out hb2
  have z0 := cell_at hx2 0 rfl
  have z1 := cell_at hx2 1 rfl
  have Hb02 := Lib.hid (hwW.trans (hb2.mono hwW.size))
  have HS := Lib.hid (show ∀ w', Below w2.heap.size w2 w' → (Below w2.heap.size w2 w' ∧ w'.cell? ⟨w.heap.size, 0, none⟩ = some (.string c.key) ∧ w'.cell? ⟨w.heap.size, 1, none⟩ = some (.slice pa c.pos.length pc)) from fun w' hb => ⟨hb, below_cell hb z0, below_cell hb z1⟩)
  have hb0 := (Below.refl w2.heap.size w2).drew
  clear hx2 x0 x1 c1 HC hb2 hwW
  go_upto_region 3 with fail
  show Code.wp _ (Code.region 3 ops_76_3 true) _ _ _
  refine region_start 13 (fun w' => Below w2.heap.size w2 w' ∧ w'.cell? ⟨w.heap.size, 0, none⟩ = some (.string c.key) ∧ w'.cell? ⟨w.heap.size, 1, none⟩ = some (.slice pa c.pos.length pc)) (by kernel_rfl) rfl ?_ (fun hHeld => ?_)
  · (exact HS.out _ (by first | assumption | exact hHeld.1 | exact below_step hHeld.1 (by assumption) | exact below_step hHeld.1 (below_alloc _ _)))
  refine take_to 0 15 #[true, false, false, false, false, false, false, false, false, false, false, false, false] (v := ?_) ops_76_3_0 rfl ops_76_3_ns (by kernel_rfl) (by kernel_rfl) (fun _ _ _ h => h) (by rfl) ?y00 (by assumption) ?_
  case y00 =>
    intro w hSw
    try dsimp only at hSw
    go_simp
    try with_reducible rfl
  simp only [List.set_cons_zero, List.set_cons_succ]
  refine take_to 1 16 #[true, true, false, false, false, false, false, false, false, false, false, false, false] (v := ?_) ops_76_3_1 rfl ops_76_3_ns (by kernel_rfl) (by kernel_rfl) (fun _ _ _ h => h) (by rfl) ?y10 (by assumption) ?_
  case y10 =>
    intro w hSw
    try dsimp only at hSw
    go_simp
    try with_reducible rfl
  simp only [List.set_cons_zero, List.set_cons_succ]
  refine take_to 4 19 #[true, true, false, false, true, false, false, false, false, false, false, false, false] (v := ?_) ops_76_3_4 rfl ops_76_3_ns (by kernel_rfl) (by kernel_rfl) (fun _ _ _ h => h) (by rfl) ?y40 (by assumption) ?_
  case y40 =>
    intro w hSw
    try dsimp only at hSw
    go_simp
    try with_reducible rfl
  simp only [List.set_cons_zero, List.set_cons_succ]
  refine take_to 5 20 #[true, true, false, false, true, true, false, false, false, false, false, false, false] (v := ?_) ops_76_3_5 rfl ops_76_3_ns (by kernel_rfl) (by kernel_rfl) (fun _ _ _ h => h) (by rfl) ?y50 (by assumption) ?_
  case y50 =>
    intro w hSw
    try dsimp only at hSw
    go_simp
    try with_reducible rfl
  simp only [List.set_cons_zero, List.set_cons_succ]
  refine take_to 7 22 #[true, true, false, false, true, true, false, true, false, false, false, false, false] (v := ?_) ops_76_3_7 rfl ops_76_3_ns (by kernel_rfl) (by kernel_rfl) (fun _ _ _ h => h) (by rfl) ?y70 (by assumption) ?_
  case y70 =>
    intro w hSw
    try dsimp only at hSw
    go_simp
    try with_reducible rfl
  simp only [List.set_cons_zero, List.set_cons_succ]
  refine take_to 8 23 #[true, true, false, false, true, true, false, true, true, false, false, false, false] (v := ?_) ops_76_3_8 rfl ops_76_3_ns (by kernel_rfl) (by kernel_rfl) (fun _ _ _ h => h) (by rfl) ?y80 (by assumption) ?_
  case y80 =>
    intro w hSw
    try dsimp only at hSw
    go_simp
    try with_reducible rfl
  simp only [List.set_cons_zero, List.set_cons_succ]
  refine run_to 2 #[true, true, true, false, true, true, false, true, true, false, false, false, false] ops_76_3_2 (by kernel_rfl) (by kernel_rfl) (by rfl) (fun K hK => ?_)
  go_simp
  refine (key_calls _ _ (by omega)).mono ?_
  rintro e w' ⟨rfl, rfl⟩
  go_wp2_with fail
  refine hK.out _ _ ?_ (fun hHeld => ?_)
  · (exact HS.out _ (by first | assumption | exact hHeld.1 | exact below_step hHeld.1 (by assumption) | exact below_step hHeld.1 (below_alloc _ _)))
  clear hK K
  try simp only [Act.put, List.setIfInBounds_toArray, List.set_cons_zero, List.set_cons_succ]
  refine run_to 3 #[true, true, true, true, true, true, false, true, true, false, false, false, false] ops_76_3_3 (by kernel_rfl) (by kernel_rfl) (by rfl) (fun K hK => ?_)
  go_simp
  refine (unless_calls _ _ _).mono ?_
  rintro e w' ⟨rfl, rfl⟩
  go_wp2_with fail
  refine hK.out _ _ ?_ (fun hHeld => ?_)
  · (exact HS.out _ (by first | assumption | exact hHeld.1 | exact below_step hHeld.1 (by assumption) | exact below_step hHeld.1 (below_alloc _ _)))
  clear hK K
  try simp only [Act.put, List.setIfInBounds_toArray, List.set_cons_zero, List.set_cons_succ]
  refine run_to 6 #[true, true, true, true, true, true, true, true, true, false, false, false, false] ops_76_3_6 (by kernel_rfl) (by kernel_rfl) (by rfl) (fun K hK => ?_)
  go_simp
  refine (unless_calls _ _ _).mono ?_
  rintro e w' ⟨rfl, rfl⟩
  go_wp2_with fail
  refine hK.out _ _ ?_ (fun hHeld => ?_)
  · (exact HS.out _ (by first | assumption | exact hHeld.1 | exact below_step hHeld.1 (by assumption) | exact below_step hHeld.1 (below_alloc _ _)))
  clear hK K
  try simp only [Act.put, List.setIfInBounds_toArray, List.set_cons_zero, List.set_cons_succ]
  refine run_to 9 #[true, true, true, true, true, true, true, true, true, true, false, false, false] ops_76_3_9 (by kernel_rfl) (by kernel_rfl) (by rfl) (fun K hK => ?_)
  go_simp
  refine (HP.out _ (below_step Hb02.out hHeld.1)).mono ?_
  rintro e w' ⟨rfl, hb⟩
  go_wp2_with fail
  refine hK.out _ _ ?_ (fun hHeld => ?_)
  · (exact HS.out _ (by first | assumption | exact hHeld.1 | exact below_step hHeld.1 (by assumption) | exact below_step hHeld.1 (below_alloc _ _)))
  clear hK K
  try simp only [Act.put, List.setIfInBounds_toArray, List.set_cons_zero, List.set_cons_succ]
  refine run_to 10 #[true, true, true, true, true, true, true, true, true, true, true, false, false] ops_76_3_10 (by kernel_rfl) (by kernel_rfl) (by rfl) (fun K hK => ?_)
  go_simp
  refine hK.out _ _ ?_ (fun hHeld => ?_)
  · (exact HS.out _ (by first | assumption | exact hHeld.1 | exact below_step hHeld.1 (by assumption) | exact below_step hHeld.1 (below_alloc _ _)))
  clear hK K
  try simp only [Act.put, List.setIfInBounds_toArray, List.set_cons_zero, List.set_cons_succ]
  refine run_to 11 #[true, true, true, true, true, true, true, true, true, true, true, true, false] ops_76_3_11 (by kernel_rfl) (by kernel_rfl) (by rfl) (fun K hK => ?_)
  go_simp
  refine (orE_calls _ 0 3 [unlessE (keyB c.key) 5, unlessE (!eb) 6, poE c.pos] _ (by simp) (by exact nums3s _ _ _ _ _)).mono ?_
  rintro e w' ⟨rfl, rfl⟩
  go_wp2_with fail
  refine hK.out _ _ ?_ (fun hHeld => ?_)
  · (exact HS.out _ (by first | assumption | exact hHeld.1 | exact below_step hHeld.1 (by assumption) | exact below_step hHeld.1 (below_alloc _ _)))
  clear hK K
  try simp only [Act.put, List.setIfInBounds_toArray, List.set_cons_zero, List.set_cons_succ]
  refine take_to 12 3 #[true, true, true, true, true, true, true, true, true, true, true, true, true] (v := ?_) ops_76_3_12 rfl ops_76_3_ns (by kernel_rfl) (by kernel_rfl) (fun _ _ _ h => h) (by rfl) ?y120 (by assumption) ?_
  case y120 =>
    intro w hSw
    try dsimp only at hSw
    go_simp
    try with_reducible rfl
  simp only [List.set_cons_zero, List.set_cons_succ]
  refine wpAnyH_done (by kernel_rfl) ?_ _
  go_wp2_with fail
  go_ret
  exact ⟨ret_int Hr.out.symm, below_step Hb02.out hHeld.1⟩
set_option maxRecDepth 100000 in
set_option maxHeartbeats 4000000 in
theorem checkSlots_calls (lo : Nat) (v : Value) (xs : List SlD) (w : World) (hR : Sls w lo v xs) (hs : ∀ c ∈ xs, SmallSl c) (hn : xs.length ≤ 1000000) :
    Calls Tryz.prog 24 #[v] w (IntBelow (chkSl xs) w) := by
  obtain ⟨a, c, rfl⟩ := NRows.shape hR
  obtain ⟨W, hW⟩ : ∃ W, W = w.alloc (.cells #[.slice a xs.length c] 26) := ⟨_, rfl⟩
  have hwW : Below w.heap.size w W := by rw [hW]; exact below_alloc w _
  have x0 : W.cell? ⟨w.heap.size, 0, none⟩ = some (.slice a xs.length c) := by rw [hW, World.cell?_alloc_at _ _ _ _ rfl]; rfl
  have Hs := Lib.hid hs
  have Hf := Lib.hid (show ∀ (V V' : World) (i : Nat), Below W.heap.size W V → i < xs.length → Below V.heap.size V V' → Calls Tryz.prog 76 (#[.int .i64 (i : Int)] ++ #[.pointer (some ⟨w.heap.size, 0, none⟩)]) V' (IntBelow (slF xs i) V') from by
    intro V V' i hbV hi hbW
    obtain ⟨r, hr⟩ : ∃ r, xs[i]? = some r := ⟨xs[i], List.getElem?_eq_getElem hi⟩
    have hRW : Sls V' lo (.slice a xs.length c) xs := NRows.below (NRows.below (NRows.below hR hwW) hbV) hbW
    have y0 := below_cell hbW (below_cell hbV x0)
    rcases sls_at hRW with ⟨_, rfl⟩ | ⟨g, off, cap, e, _⟩
    · simp at hi
    · rw [e] at hRW y0
      exact checkSlots1_calls w.heap.size g off cap i lo xs r V' hr (Hs.out r (List.mem_of_getElem? hr)) hn y0 hRW)
  have Hr := Lib.hid (show chkSl xs = firstE [unlessE (decide (0 < xs.length)) 8, eachE xs.length 12 (slF xs)] from rfl)
  have HS := Lib.hid (show ∀ w', Below W.heap.size W w' → (Below W.heap.size W w' ∧ w'.cell? ⟨w.heap.size, 0, none⟩ = some (.slice a xs.length c)) from fun w' hb => ⟨hb, below_cell hb x0⟩)
  have hb0 := (Below.refl W.heap.size W).drew
  clear hs hR x0
  go_enter Tryz.func24, Tryz.ntmps24
  go_upto_region 1 with fail
  rw [← hW]
  clear hW
  show Code.wp _ (Code.region 1 ops_24_1 true) _ _ _
  refine region_start 11 (fun w' => Below W.heap.size W w' ∧ w'.cell? ⟨w.heap.size, 0, none⟩ = some (.slice a xs.length c)) (by kernel_rfl) rfl ?_ (fun hHeld => ?_)
  · (exact HS.out _ (by first | assumption | exact hHeld.1 | exact below_step hHeld.1 (by assumption) | exact below_step hHeld.1 (below_alloc _ _)))
  refine take_to 0 3 #[true, false, false, false, false, false, false, false, false, false, false] (v := ?_) ops_24_1_0 rfl ops_24_1_ns (by kernel_rfl) (by kernel_rfl) (fun _ _ _ h => h) (by rfl) ?y01 (by assumption) ?_
  case y01 =>
    intro w hSw
    try dsimp only at hSw
    go_simp
    try with_reducible rfl
  simp only [List.set_cons_zero, List.set_cons_succ]
  refine take_to 1 4 #[true, true, false, false, false, false, false, false, false, false, false] (v := ?_) ops_24_1_1 rfl ops_24_1_ns (by kernel_rfl) (by kernel_rfl) (fun _ _ _ h => h) (by rfl) ?y11 (by assumption) ?_
  case y11 =>
    intro w hSw
    try dsimp only at hSw
    go_simp
    try with_reducible rfl
  simp only [List.set_cons_zero, List.set_cons_succ]
  refine take_to 2 5 #[true, true, true, false, false, false, false, false, false, false, false] (v := ?_) ops_24_1_2 rfl ops_24_1_ns (by kernel_rfl) (by kernel_rfl) (fun _ _ _ h => h) (by rfl) ?y21 (by assumption) ?_
  case y21 =>
    intro w hSw
    try dsimp only at hSw
    go_simp
    try with_reducible rfl
  simp only [List.set_cons_zero, List.set_cons_succ]
  refine take_to 4 7 #[true, true, true, false, true, false, false, false, false, false, false] (v := ?_) ops_24_1_4 rfl ops_24_1_ns (by kernel_rfl) (by kernel_rfl) (fun _ _ _ h => h) (by rfl) ?y41 (by assumption) ?_
  case y41 =>
    intro w hSw
    try dsimp only at hSw
    go_simp
    try with_reducible rfl
  simp only [List.set_cons_zero, List.set_cons_succ]
  refine take_to 5 8 #[true, true, true, false, true, true, false, false, false, false, false] (v := ?_) ops_24_1_5 rfl ops_24_1_ns (by kernel_rfl) (by kernel_rfl) (fun _ _ _ h => h) (by rfl) ?y51 (by assumption) ?_
  case y51 =>
    intro w hSw
    try dsimp only at hSw
    go_simp
    try with_reducible rfl
  simp only [List.set_cons_zero, List.set_cons_succ]
  refine take_to 6 9 #[true, true, true, false, true, true, true, false, false, false, false] (v := ?_) ops_24_1_6 rfl ops_24_1_ns (by kernel_rfl) (by kernel_rfl) (fun _ _ _ h => h) (by rfl) ?y61 (by assumption) ?_
  case y61 =>
    intro w hSw
    try dsimp only at hSw
    go_simp
    try with_reducible rfl
  simp only [List.set_cons_zero, List.set_cons_succ]
  refine run_to 3 #[true, true, true, true, true, true, true, false, false, false, false] ops_24_1_3 (by kernel_rfl) (by kernel_rfl) (by rfl) (fun K hK => ?_)
  go_simp
  refine (unless_calls _ _ _).mono ?_
  rintro e w' ⟨rfl, rfl⟩
  go_wp2_with fail
  refine hK.out _ _ ?_ (fun hHeld => ?_)
  · (exact HS.out _ (by first | assumption | exact hHeld.1 | exact below_step hHeld.1 (by assumption) | exact below_step hHeld.1 (below_alloc _ _)))
  clear hK K
  try simp only [Act.put, List.setIfInBounds_toArray, List.set_cons_zero, List.set_cons_succ]
  refine run_to 7 #[true, true, true, true, true, true, true, true, false, false, false] ops_24_1_7 (by kernel_rfl) (by kernel_rfl) (by rfl) (fun K hK => ?_)
  go_simp
  refine (each_calls 76 #[.pointer (some ⟨w.heap.size, 0, none⟩)] (enters_of Tryz.func76 (by kernel_rfl) rfl) (slF xs) xs.length 12 _ hn (fun V i h1 h2 => Hf.out _ V i hHeld.1 h1 h2)).mono ?_
  rintro e w' ⟨rfl, hb⟩
  go_wp2_with fail
  refine hK.out _ _ ?_ (fun hHeld => ?_)
  · (exact HS.out _ (by first | assumption | exact hHeld.1 | exact below_step hHeld.1 (by assumption) | exact below_step hHeld.1 (below_alloc _ _)))
  clear hK K
  try simp only [Act.put, List.setIfInBounds_toArray, List.set_cons_zero, List.set_cons_succ]
  refine run_to 8 #[true, true, true, true, true, true, true, true, true, false, false] ops_24_1_8 (by kernel_rfl) (by kernel_rfl) (by rfl) (fun K hK => ?_)
  go_simp
  refine hK.out _ _ ?_ (fun hHeld => ?_)
  · (exact HS.out _ (by first | assumption | exact hHeld.1 | exact below_step hHeld.1 (by assumption) | exact below_step hHeld.1 (below_alloc _ _)))
  clear hK K
  try simp only [Act.put, List.setIfInBounds_toArray, List.set_cons_zero, List.set_cons_succ]
  refine run_to 9 #[true, true, true, true, true, true, true, true, true, true, false] ops_24_1_9 (by kernel_rfl) (by kernel_rfl) (by rfl) (fun K hK => ?_)
  go_simp
  refine (orE_calls _ 0 2 [unlessE (decide (0 < xs.length)) 8, eachE xs.length 12 (slF xs)] _ (by simp) (by exact nums2 _ _ _ _)).mono ?_
  rintro e w' ⟨rfl, rfl⟩
  go_wp2_with fail
  refine hK.out _ _ ?_ (fun hHeld => ?_)
  · (exact HS.out _ (by first | assumption | exact hHeld.1 | exact below_step hHeld.1 (by assumption) | exact below_step hHeld.1 (below_alloc _ _)))
  clear hK K
  try simp only [Act.put, List.setIfInBounds_toArray, List.set_cons_zero, List.set_cons_succ]
  refine take_to 10 2 #[true, true, true, true, true, true, true, true, true, true, true] (v := ?_) ops_24_1_10 rfl ops_24_1_ns (by kernel_rfl) (by kernel_rfl) (fun _ _ _ h => h) (by rfl) ?y101 (by assumption) ?_
  case y101 =>
    intro w hSw
    try dsimp only at hSw
    go_simp
    try with_reducible rfl
  simp only [List.set_cons_zero, List.set_cons_succ]
  refine wpAnyH_done (by kernel_rfl) ?_ _
  go_wp2_with fail
  go_ret
  exact ⟨ret_int Hr.out.symm, below_step hwW hHeld.1⟩
end Go.Proofs.YthlfjfmlmcoihaaGreat
