/- Levels, Worths and Prices in one form for both ways. -/
import Derived.Test.YtddnnjblpgfjeaaGreatDoorMgbb
import Derived.Test.YtddnnjblpgfjeaaGreatDoorMgbc
/- Worths: both ways agree (plain). -/
namespace Go.Proofs.YtddnnjblpgfjeaaGreatDoor
open Go.RowKit

/-- By position, the best first: as picked out of all. -/
theorem vOf_ofR {xs : List AsD} (ho : OnceA xs) (k : ByteArray) : vOf (rank xs) k = (ofR xs k).map AsD.value := by
 unfold vOf ofR
 rw [rank_filter ho]
/-- What the levels' map holds. -/
theorem lvK_some {Z : ByteArray → List Int} {t : Int} {ps : List PlD} (hp : OnceP ps) {i : Nat} {y : PlD} (hy : ps[i]? = some y) (hz : Z y.pos ≠ []) : ∀ n, i < n → n ≤ ps.length → lvK Z t ps n y.pos = some (lvAt (Z y.pos) y.many t)
 | n + 1, h, hn => by
  rw [lvK]; by_cases e : n = i
  ·subst e
   rw [hy]
   have : (Z y.pos).isEmpty = false := by cases hq : Z y.pos with
    | nil => exact absurd hq hz
    | cons _ _ => rfl
   simp [beqS_self, this]
  ·obtain ⟨x, hx⟩ : ∃ x, ps[n]? = some x := ⟨_, List.getElem?_eq_getElem (by omega)⟩
   have hne : beqS x.pos y.pos = false := by
    cases hq : beqS x.pos y.pos
    ·rfl
    ·exact absurd (hp n i x y hx hy (beqS_iff.1 hq)) e
   rw [hx]; simp only [Option.getD_some, hne, Bool.false_and]; exact lvK_some hp hy hz n (by omega) (by omega)
theorem lvK_none {Z : ByteArray → List Int} {t : Int} {ps : List PlD} {k : ByteArray} : ∀ n, (∀ i y, i < n → ps[i]? = some y → n ≤ ps.length → y.pos ≠ k ∨ Z y.pos = []) → n ≤ ps.length → lvK Z t ps n k = none
 | 0, _, _ => rfl
 | n + 1, h, hn => by
  rw [lvK]; obtain ⟨x, hx⟩ : ∃ x, ps[n]? = some x := ⟨_, List.getElem?_eq_getElem (by omega)⟩
  have h1 := h n x (by omega) hx hn
  rw [hx]
  have hc : (beqS x.pos k && !(Z x.pos).isEmpty) = false := by
   rcases h1 with h2 | h2
   ·cases hq : beqS x.pos k
    ·rfl
    ·exact absurd (beqS_iff.1 hq) h2
   ·rw [h2]; simp
  simp only [Option.getD_some, hc]; exact lvK_none n (fun i y hi hy _ => h i y (by omega) hy hn) (by omega)
theorem lvAt_nil (m t : Int) : lvAt [] m t = 0 := by simp [lvAt]
/-- A level told: by the map as by the reference. -/
theorem lv_told {xs : List AsD} {ps : List PlD} {t : Int} (hp : OnceP ps) (ho : OnceA xs) {y : PlD} (hy : y ∈ ps) : (lvK (vOf (rank xs)) t ps ps.length y.pos).getD 0 = levelR xs y t := by
 obtain ⟨i, hi⟩ := List.getElem?_of_mem hy
 have hil := (List.getElem?_eq_some_iff.1 hi).1
 unfold levelR
 rw [← vOf_ofR ho]
 by_cases hz : vOf (rank xs) y.pos = []
 ·rw [hz, lvAt_nil, lvK_none]
  ·rfl
  ·intro j x hj hx _
   by_cases e : x.pos = y.pos
   ·exact .inr (by rw [e]; exact hz)
   ·exact .inl e
  ·exact Nat.le_refl _
 ·rw [lvK_some hp hi hz _ hil (Nat.le_refl _)]
  rfl
theorem lvAt_mem {zs : List Int} {m t : Int} (hm : 0 ≤ m * t) (h : zs ≠ []) : lvAt zs m t ∈ zs := by
 have hl : 0 < zs.length := List.length_pos_iff.2 h
 unfold lvAt
 have hlt : (min (m * t) ((zs.length : Int) - 1)).toNat < zs.length := by omega
 rw [List.getElem?_eq_getElem hlt]
 exact List.getElem_mem hlt
theorem levelR_fit {xs : List AsD} {y : PlD} {t : Int} (hf : ∀ x ∈ xs, FitA x) (hm : 0 ≤ y.many * t) : -1000000 ≤ levelR xs y t ∧ levelR xs y t ≤ 1000000 := by
 unfold levelR
 by_cases hz : (ofR xs y.pos).map AsD.value = []
 ·rw [hz, lvAt_nil]; omega
 ·obtain ⟨x, hx, he⟩ := List.mem_map.1 (lvAt_mem hm hz)
  rw [← he]; exact hf x (mem_ofR hx)
end Go.Proofs.YtddnnjblpgfjeaaGreatDoor
/- Worths: ranks by the one before = by counting; both lists agree (plain). -/
namespace Go.Proofs.YtddnnjblpgfjeaaGreatDoor
open Go.RowKit

theorem cmpO_ok : CmpOk cmpO := (CmpOk.on compareInt_ok OvD.worth).rev
theorem cmpO_le {x y : OvD} : cmpO x y ≤ 0 ↔ y.worth ≤ x.worth := by
 have h := cint_sgn y.worth x.worth
 unfold cmpO
 constructor
 ·intro h1
  by_cases h2 : y.worth ≤ x.worth
  ·exact h2
  ·have := (cint_sgn y.worth x.worth).1
   have h3 := (cint_sgn y.worth x.worth).2; omega
 ·intro h1
  by_cases e : y.worth = x.worth
  ·have := h.2.2 e; omega
  ·have := h.1.2 (by omega); omega
theorem sorted_at {l : List OvD} (h : Ordered cmpO l) {i j : Nat} (hij : i < j) (hj : j < l.length) : (ovAt l j).worth ≤ (ovAt l i).worth := by
 have := (List.pairwise_iff_getElem.1 h) i j (by omega) hj hij
 have e1 : ovAt l i = l[i] := ovAt_some (List.getElem?_eq_getElem (by omega))
 have e2 : ovAt l j = l[j] := ovAt_some (List.getElem?_eq_getElem hj)
 rw [e1, e2]
 exact cmpO_le.1 this
theorem cntW_take {l : List OvD} (h : Ordered cmpO l) {i : Nat} (hi : i < l.length) (wx : Int) (hw : (ovAt l i).worth ≤ wx) : cntW l wx = cntW (l.take i) wx := by
 have e : l = l.take i ++ l.drop i := (List.take_append_drop i l).symm
 have h2 : (l.drop i).filter (fun y => decide (wx < y.worth)) = [] := by
  rw [List.filter_eq_nil_iff]; intro y hy; obtain ⟨j, hj⟩ := List.getElem?_of_mem hy; rw [List.getElem?_drop] at hj
  have hjl := (List.getElem?_eq_some_iff.1 hj).1
  have hle : y.worth ≤ (ovAt l i).worth := by
   by_cases h0 : j = 0
   ·subst h0
    rw [Nat.add_zero] at hj
    rw [ovAt_some hj]; exact Int.le_refl _
   ·have := sorted_at h (show i < i + j by omega) hjl
    rwa [ovAt_some hj] at this
  simp
  omega
 unfold cntW
 conv => lhs; rw [e]
 rw [List.filter_append, h2, List.append_nil]
/-- Ranks by the one before are those by counting. -/
theorem rk_same {l : List OvD} (h : Ordered cmpO l) : ∀ i, i < l.length → rkG l i = rkC l i
 | 0, hi => by
  unfold rkC rkG
  rw [cntW_take h hi _ (Int.le_refl _)]; simp [cntW]
 | i + 1, hi => by
  have ih := rk_same h i (by omega)
  rw [rkG]; by_cases e : (ovAt l i).worth = (ovAt l (i + 1)).worth
  ·rw [if_pos e, ih]
   unfold rkC; rw [e]
  ·rw [if_neg e]
   have hle : (ovAt l (i + 1)).worth ≤ (ovAt l i).worth := sorted_at h (Nat.lt_succ_self i) hi
   unfold rkC; rw [cntW_take h hi _ (Int.le_refl _)]
   have hall : (l.take (i + 1)).filter (fun y => decide ((ovAt l (i + 1)).worth < y.worth)) = l.take (i + 1) := by
    rw [List.filter_eq_self]; intro y hy; obtain ⟨j, hj⟩ := List.getElem?_of_mem hy; have hjl := (List.getElem?_eq_some_iff.1 hj).1; rw [List.length_take] at hjl
    rw [List.getElem?_take_of_lt (by omega)] at hj
    have hge : (ovAt l i).worth ≤ y.worth := by
     by_cases h0 : j = i
     ·subst h0; rw [ovAt_some hj]; exact Int.le_refl _
     ·have := sorted_at h (show j < i by omega) (by omega)
      rwa [ovAt_some hj] at this
    simp
    omega
   unfold cntW; rw [hall, List.length_take, Nat.min_eq_left (by omega)]
   omega
theorem rkTo_rkBy {l : List OvD} (h : Ordered cmpO l) : rkTo l l.length = rkBy (rkC l) l l.length := by
 refine List.ext_getElem? fun i => ?_
 by_cases hi : i < l.length
 ·have hx := List.getElem?_eq_getElem hi
  rw [rkTo_at _ hx, rkBy_at _ hx, if_pos hi, if_pos hi, rk_same h i hi]
 ·rw [List.getElem?_eq_none (by rw [rkTo_len]; omega), List.getElem?_eq_none (by rw [rkBy_len]; omega)]
/-- Both lists before they are put in order. -/
theorem over_same {xs : List AsD} {ps : List PlD} {t : Int} (hp : OnceP ps) (ho : OnceA xs) : overP (lvK (vOf (rank xs)) t ps ps.length) xs = overR (fun y => levelR xs y t) ps xs := by
 have hx : ∀ x ∈ xs, ((lvK (vOf (rank xs)) t ps ps.length x.pos).map fun l => (⟨x.player, x.value - l, 0⟩ : OvD)).toList = overX (fun y => levelR xs y t) x ps := by
  intro x hx
  have hz : vOf (rank xs) x.pos ≠ [] := by
   intro e; have hm : x.value ∈ vOf (rank xs) x.pos := List.mem_map.2 ⟨x, List.mem_filter.2 ⟨(rank_perm xs).mem_iff.2 hx, beqS_self _⟩, rfl⟩
   rw [e] at hm; cases hm
  by_cases hq : ∃ (i : Nat) (y : PlD), ps[i]? = some y ∧ y.pos = x.pos
  ·obtain ⟨i, y, hi, hy⟩ := hq
   have hil := (List.getElem?_eq_some_iff.1 hi).1; rw [← hy, lvK_some hp hi (by rw [hy]; exact hz) _ hil (Nat.le_refl _)]
   have e : overX (fun y => levelR xs y t) x ps = [⟨x.player, x.value - levelR xs y t, 0⟩] := by
    have hsplit : ps = ps.take i ++ y :: ps.drop (i + 1) := by
     have h1 := List.drop_eq_getElem_cons hil; have h2 : ps[i] = y := by rw [List.getElem?_eq_getElem hil] at hi; exact Option.some.inj hi
     rw [h2] at h1
     rw [← h1, List.take_append_drop]
    have hno : ∀ (q : List PlD), (∀ z ∈ q, z.pos ≠ x.pos) → overX (fun y => levelR xs y t) x q = [] := by
     intro q hq; unfold overX; rw [List.filterMap_eq_nil_iff]; intro z hz; cases hb : beqS x.pos z.pos
     ·rfl
     ·exact absurd (beqS_iff.1 hb).symm (hq z hz)
    have h1 : ∀ z ∈ ps.take i, z.pos ≠ x.pos := fun z hz e => by
     obtain ⟨j, hj⟩ := List.getElem?_of_mem hz; have hjl := (List.getElem?_eq_some_iff.1 hj).1; rw [List.length_take] at hjl
     rw [List.getElem?_take_of_lt (by omega)] at hj
     have := hp j i z y hj hi (e.trans hy.symm)
     omega
    have h2 : ∀ z ∈ ps.drop (i + 1), z.pos ≠ x.pos := fun z hz e => by
     obtain ⟨j, hj⟩ := List.getElem?_of_mem hz; rw [List.getElem?_drop] at hj
     have := hp (i + 1 + j) i z y hj hi (e.trans hy.symm)
     omega
    have e1 := hno _ h1; have e2 := hno _ h2; unfold overX at e1 e2 ⊢
    rw [hsplit, List.filterMap_append, e1, List.filterMap_cons, e2]; simp [hy, beqS_self]
   rw [e]; unfold levelR; rw [← vOf_ofR ho]; simp
  ·rw [lvK_none _ (fun i y hi hy _ => .inl fun e => hq ⟨i, y, hy, e⟩) (Nat.le_refl _)]
   have e : overX (fun y => levelR xs y t) x ps = [] := by
    unfold overX; rw [List.filterMap_eq_nil_iff]; intro z hz; cases hb : beqS x.pos z.pos
    ·rfl
    ·obtain ⟨i, hi⟩ := List.getElem?_of_mem hz
     exact absurd ⟨i, z, hi, (beqS_iff.1 hb).symm⟩ hq
   rw [e]; rfl
 have hgen : ∀ q : List AsD, (∀ x ∈ q, x ∈ xs) → overP (lvK (vOf (rank xs)) t ps ps.length) q = overR (fun y => levelR xs y t) ps q := by
  intro q; induction q with
  | nil => intro _; rfl
  | cons x q ih =>
   intro hq; have h1 := hx x (hq x (by simp))
   have h2 := ih fun z hz => hq z (List.mem_cons_of_mem _ hz)
   unfold overP overR at h2 ⊢
   rw [List.filterMap_cons, List.flatMap_cons, ← h1, ← h2]; cases (lvK (vOf (rank xs)) t ps ps.length x.pos) <;> rfl
 exact hgen xs fun _ h => h
end Go.Proofs.YtddnnjblpgfjeaaGreatDoor
namespace Go.Proofs.YtddnnjblpgfjeaaGreatDoor
open Go.RowKit

/-- The worths, as the reference ranks them. -/
def wsR (xs : List AsD) (ps : List PlD) (t : Int) : List OvD :=
 rkBy (rkC (insL cmpO (overR (fun y => levelR xs y t) ps xs))) (insL cmpO (overR (fun y => levelR xs y t) ps xs)) (insL cmpO (overR (fun y => levelR xs y t) ps xs)).length
structure RightL (xs : List AsD) (ps : List PlD) (t : Int) : Prop where
 once : OnceP ps
 rise : RiseA xs
 fit : ∀ x ∈ xs, FitA x
 many : ∀ y ∈ ps, 0 ≤ y.many ∧ y.many ≤ 12
 few : ps.length ≤ 10
 t1 : 1 ≤ t
 t2 : t ≤ 20
theorem rightL {xs : List AsD} {ps : List PlD} {t : Int} (h : leagueE xs ps t = 0) : RightL xs ps t := by
 have h1 : teamE xs ps = 0 := firstE_zG h _ (by simp)
 have h2 := unlessE_zG (by omega) (firstE_zG h (unlessE (betwB t 1 20) 1) (by simp))
 unfold betwB at h2
 simp only [Bool.and_eq_true, decide_eq_true_eq] at h2
 exact ⟨(smallP_of h1).2.2, rise_of h1, fit_of h1, (smallP_of h1).1, (smallP_of h1).2.1, h2.1, h2.2⟩
theorem RightL.mul {xs : List AsD} {ps : List PlD} {t : Int} (h : RightL xs ps t) : ∀ y ∈ ps, 0 ≤ y.many * t := fun y hy => Int.mul_nonneg (h.many y hy).1 (by have := h.t1; omega)
theorem RightL.lv {xs : List AsD} {ps : List PlD} {t : Int} (h : RightL xs ps t) : ∀ y ∈ ps, -1000000 ≤ levelR xs y t ∧ levelR xs y t ≤ 1000000 := fun y hy => levelR_fit h.fit (h.mul y hy)
theorem RightL.lvs {xs : List AsD} {ps : List PlD} {t : Int} (h : RightL xs ps t) : ∀ k l, lvK (vOf (rank xs)) t ps ps.length k = some l → -1000000 ≤ l ∧ l ≤ 1000000 := by
 intro k l hl
 by_cases hq : ∃ (i : Nat) (y : PlD), ps[i]? = some y ∧ y.pos = k
 ·obtain ⟨i, y, hi, rfl⟩ := hq
  have h1 := lv_told (t := t) h.once h.rise.once (List.mem_of_getElem? hi); rw [hl] at h1
  have h2 := h.lv y (List.mem_of_getElem? hi); rw [← h1] at h2
  exact h2
 ·rw [lvK_none _ (fun i y hi hy _ => .inl fun e => hq ⟨i, y, hy, e⟩) (Nat.le_refl _)] at hl
  cases hl
theorem RightL.out {xs : List AsD} {ps : List PlD} {t : Int} (h : RightL xs ps t) : rkTo (insL cmpO (overP (lvK (vOf (rank xs)) t ps ps.length) xs)) (insL cmpO (overP (lvK (vOf (rank xs)) t ps ps.length) xs)).length = wsR xs ps t := by
 unfold wsR
 rw [over_same h.once h.rise.once]
 exact rkTo_rkBy (insL_ordered cmpO_ok _)
theorem RightL.len {xs : List AsD} {ps : List PlD} {t : Int} (h : RightL xs ps t) : (overR (fun y => levelR xs y t) ps xs).length ≤ xs.length := by
 rw [← over_same h.once h.rise.once]
 exact overP_len _ _
theorem wsR_len {xs : List AsD} {ps : List PlD} {t : Int} (h : RightL xs ps t) : (wsR xs ps t).length ≤ xs.length := by
 unfold wsR
 rw [rkBy_len, insL_len]
 exact h.len
theorem wsR_worth {xs : List AsD} {ps : List PlD} {t : Int} (h : RightL xs ps t) : ∀ x ∈ wsR xs ps t, x.worth ≤ 10000000 := by
 intro x hx
 unfold wsR rkBy at hx
 obtain ⟨i, hi, rfl⟩ := List.mem_mapIdx.1 hx
 have hm : (insL cmpO (overR (fun y => levelR xs y t) ps xs))[i] ∈ overR (fun y => levelR xs y t) ps xs := (insL_perm cmpO_ok _).mem_iff.1 (List.getElem_mem hi)
 have hb : ∀ z ∈ overR (fun y => levelR xs y t) ps xs, z.worth ≤ 10000000 := by
  intro z hz; obtain ⟨a, ha, hz⟩ := List.mem_flatMap.1 hz; obtain ⟨y, hy, hz⟩ := List.mem_filterMap.1 hz; split at hz
  ·obtain rfl := Option.some.inj hz
   have h1 := h.fit a ha; have h2 := h.lv y hy; have h3 := h1.2; show a.value - levelR xs y t ≤ 10000000
   omega
  ·cases hz
 have := hb _ hm
 split <;> exact this
theorem levels_tell (lo lo' : Nat) (v u : Value) (xs : List AsD) (ps : List PlD) (t : Int) (w : World) (hv : Ass w lo v xs) (hP : Pls w lo' u ps) (hn : xs.length ≤ 12) (hs : ∀ x ∈ xs, SmallA x) (hp : ∀ y ∈ ps, SmallP y) (hD : DigB w) (he : leagueE xs ps t = 0) :
  Calls Tryz.prog 30 #[v, u, .int .i64 t] w (PaTwo (pairF (fun y => levelR xs y t) ps) w) := by
 have h := rightL he
 exact levels_right lo lo' v u xs ps t w hv hP hn hs hp h.many h.few h.t1 h.t2 _ (fun y hy => by have := h.lv y hy; unfold Int64; omega) (fun y hy => lv_told h.once h.rise.once hy) he hD
theorem worths_tell (lo lo' : Nat) (v u : Value) (xs : List AsD) (ps : List PlD) (t : Int) (w : World) (hv : Ass w lo v xs) (hP : Pls w lo' u ps) (hn : xs.length ≤ 12) (hs : ∀ x ∈ xs, SmallA x) (hp : ∀ y ∈ ps, SmallP y) (he : leagueE xs ps t = 0) :
  Calls Tryz.prog 31 #[v, u, .int .i64 t] w (OvTwo (wsR xs ps t) w) := by
 have h := rightL he
 exact worths_right lo lo' v u xs ps t w hv hP hn hs h.fit hp h.many h.few h.t1 h.t2 h.lvs he _ h.out
theorem spanR {xs : List AsD} {ps : List PlD} {t b : Int} (h : spanE xs ps t b = 0) : leagueE xs ps t = 0 ∧ 0 ≤ b ∧ b ≤ 1000000 := by
 have h1 : leagueE xs ps t = 0 := firstE_zG h _ (by simp)
 have h2 := unlessE_zG (by omega) (firstE_zG h (unlessE (betwB b 0 1000000) 1) (by simp))
 unfold betwB at h2
 simp only [Bool.and_eq_true, decide_eq_true_eq] at h2
 exact ⟨h1, h2.1, h2.2⟩
theorem prices_tell (lo lo' : Nat) (v u : Value) (xs : List AsD) (ps : List PlD) (t b : Int) (w : World) (hv : Ass w lo v xs) (hP : Pls w lo' u ps) (hn : xs.length ≤ 12) (hs : ∀ x ∈ xs, SmallA x) (hp : ∀ y ∈ ps, SmallP y) (hD : DigB w) (he : spanE xs ps t b = 0) :
  Calls Tryz.prog 32 #[v, u, .int .i64 t, .int .i64 b] w (PaErr (pricesV (wsR xs ps t) t b) w) := by
 obtain ⟨h1, h2, h3⟩ := spanR he
 have h := rightL h1
 exact prices_right lo lo' v u xs ps t b w hv hP hn hs h.fit hp h.many h.few h.t1 h.t2 h2 h3 h.lvs h1 _ h.out (Nat.le_trans (wsR_len h) hn) (wsR_worth h) hD
theorem levelsOf_tell (lo lo' : Nat) (v u : Value) (xs : List AsD) (ps : List PlD) (t : Int) (w : World) (hv : Ass w lo v xs) (hP : Pls w lo' u ps) (hn : xs.length ≤ 12) (hp : ∀ y ∈ ps, SmallP y) (hD : DigB w) (he : leagueE xs ps t = 0) :
  Calls Tryz.prog 38 #[v, u, .int .i64 t] w (MadePa (pairF (fun y => levelR xs y t) ps) w) := by
 have h := rightL he
 exact levelsOf_ref lo lo' v u xs ps t w hv hP h.rise hn hp h.many h.few h.t1 h.t2 _ (fun y hy => by have := h.lv y hy; unfold Int64; omega) (fun _ _ => rfl) hD
theorem worthsFor_tell (lo lo' : Nat) (v u : Value) (xs : List AsD) (ps : List PlD) (t : Int) (w : World) (hv : Ass w lo v xs) (hP : Pls w lo' u ps) (hn : xs.length ≤ 12) (hs : ∀ x ∈ xs, SmallA x) (hp : ∀ y ∈ ps, SmallP y) (he : leagueE xs ps t = 0) :
  Calls Tryz.prog 40 #[v, u, .int .i64 t] w (MadeOv (wsR xs ps t) w) := by
 have h := rightL he
 exact worthsFor_calls lo lo' v u xs ps t w hv hP h.rise hn hs h.fit hp h.many h.few h.t1 h.t2 _ h.lv (fun _ _ => rfl) _ (Nat.le_trans h.len hn) rfl
theorem pricesOf_tell (lo lo' : Nat) (v u : Value) (xs : List AsD) (ps : List PlD) (t b : Int) (w : World) (hv : Ass w lo v xs) (hP : Pls w lo' u ps) (hn : xs.length ≤ 12) (hs : ∀ x ∈ xs, SmallA x) (hp : ∀ y ∈ ps, SmallP y) (hD : DigB w) (he : spanE xs ps t b = 0) :
  Calls Tryz.prog 35 #[v, u, .int .i64 t, .int .i64 b] w (PaErr (pricesV (wsR xs ps t) t b) w) := by
 obtain ⟨h1, h2, h3⟩ := spanR he
 have h := rightL h1
 exact pricesOf_calls lo lo' v u xs ps t b w hv hP h.rise hn hs h.fit hp h.many h.few h.t1 h.t2 h2 h3 _ h.lv (fun _ _ => rfl) _ (Nat.le_trans h.len hn) rfl (Nat.le_trans (wsR_len h) hn) (wsR_worth h) hD
end Go.Proofs.YtddnnjblpgfjeaaGreatDoor
