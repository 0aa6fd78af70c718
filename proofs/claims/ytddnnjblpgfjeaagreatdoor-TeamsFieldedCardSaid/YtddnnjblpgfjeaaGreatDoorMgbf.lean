/- Brings and Drop in one form each. -/
import Derived.Test.YtddnnjblpgfjeaaGreatDoorMgbe
import Derived.Test.YtddnnjblpgfjeaaGreatDoorMgbd
import Derived.Test.YtddnnjblpgfjeaaGreatDoorMgae
/- Right teams, and that both ways agree. -/
namespace Go.Proofs.YtddnnjblpgfjeaaGreatDoor
open Go.RowKit

theorem firstE_zG : ∀ {l : List Int}, firstE l = 0 → ∀ x ∈ l, x = 0 := by
 intro l
 induction l with
 | nil => intro _ x hx; cases hx
 | cons y l ih =>
  intro h; unfold firstE at h
  by_cases hy : y = 0
  ·rw [if_pos hy] at h
   intro x hx; rcases List.mem_cons.1 hx with rfl | hx
   ·exact hy
   ·exact ih h x hx
  ·rw [if_neg hy] at h; exact absurd h hy
theorem eachE_zG {n : Nat} {most : Int} {f : Nat → Int} (h : eachE n most f = 0) : (n : Int) ≤ most ∧ ∀ i, i < n → f i = 0 := by
 unfold eachE at h
 by_cases hm : most < (n : Int)
 ·rw [if_pos hm] at h; cases h
 ·rw [if_neg hm] at h
  refine ⟨by omega, fun i hi => firstE_zG h _ (List.mem_map.2 ⟨i, List.mem_range.2 (by simpa using hi), rfl⟩)⟩
theorem unlessE_zG {b : Bool} {e : Int} (he : e ≠ 0) (h : unlessE b e = 0) : b = true := by
 cases b
 ·simp [unlessE] at h; exact absurd h he
 ·rfl
theorem chain_lt {f : Nat → ByteArray} {n : Nat} (h : ∀ i, i < n → i ≠ 0 → ltS (f (i - 1)) (f i) = true) : ∀ j, j < n → ∀ i, i < j → ltS (f i) (f j) = true := by
 intro j
 induction j with
 | zero => intro _ i hi; omega
 | succ j ih =>
  intro hj i hi; have h1 := h (j + 1) hj (by omega)
  rw [Nat.add_sub_cancel] at h1
  by_cases e : i = j
  ·rw [e]; exact h1
  ·exact ltS_trans (ih (by omega) i (by omega)) h1
theorem asR {xs : List AsD} (h : chkA xs = 0) : (∀ x ∈ xs, keyB x.player = true ∧ FitA x) ∧ RiseA xs := by
 obtain ⟨_, h2⟩ := eachE_zG h
 refine ⟨fun x hx => ?_, ?_⟩
 ·obtain ⟨i, hi⟩ := List.getElem?_of_mem hx
  have h3 := h2 i (List.getElem?_eq_some_iff.1 hi).1; unfold asF at h3
  rw [asAt_some hi] at h3
  have hk := unlessE_zG (by omega) (firstE_zG h3 (unlessE (keyB x.player) 5) (by simp))
  have hb := unlessE_zG (by omega) (firstE_zG h3 (unlessE (betwB x.value (-1000000) 1000000) 1) (by simp))
  unfold betwB at hb
  simp only [Bool.and_eq_true, decide_eq_true_eq] at hb
  exact ⟨hk, hb⟩
 ·have hc := chain_lt (f := fun i => (asAt xs i).player) (n := xs.length) fun i hi h0 => by
   have h3 := h2 i hi; unfold asF at h3
   have ho := unlessE_zG (by omega) (firstE_zG h3 (unlessE (decide (i = 0) || ltS (asAt xs (i - 1)).player (asAt xs i).player) 7) (by simp))
   rw [decide_eq_false h0, Bool.false_or] at ho
   exact ho
  unfold RiseA; rw [List.pairwise_iff_getElem]; intro i j hi hj hij; have := hc j hj i hij
  rw [asAt_some (List.getElem?_eq_getElem hi), asAt_some (List.getElem?_eq_getElem hj), ← cmpS_neg] at this
  exact of_decide_eq_true this
theorem plR {ps : List PlD} (h : chkP ps = 0) : (∀ y ∈ ps, 0 ≤ y.many ∧ y.many ≤ 12) ∧ ps.length ≤ 10 ∧ OnceP ps := by
 obtain ⟨h1, h2⟩ := eachE_zG h
 refine ⟨fun y hy => ?_, by omega, ?_⟩
 ·obtain ⟨i, hi⟩ := List.getElem?_of_mem hy
  have h3 := h2 i (List.getElem?_eq_some_iff.1 hi).1; unfold plF at h3
  rw [plAtt_some hi] at h3
  have hb := unlessE_zG (by omega) (firstE_zG h3 (unlessE (betwB y.many 0 12) 1) (by simp))
  unfold betwB at hb
  simp only [Bool.and_eq_true, decide_eq_true_eq] at hb
  exact hb
 ·have hc := chain_lt (f := fun i => (plAtt ps i).pos) (n := ps.length) fun i hi h0 => by
   have h3 := h2 i hi; unfold plF at h3
   have ho := unlessE_zG (by omega) (firstE_zG h3 (unlessE (decide (i = 0) || ltS (plAtt ps (i - 1)).pos (plAtt ps i).pos) 7) (by simp))
   rw [decide_eq_false h0, Bool.false_or] at ho
   exact ho
  intro i j x y hx hy e; have hi := (List.getElem?_eq_some_iff.1 hx).1; have hj := (List.getElem?_eq_some_iff.1 hy).1; rcases Nat.lt_trichotomy i j with hlt | rfl | hlt
  ·have := hc j hj i hlt
   rw [plAtt_some hx, plAtt_some hy, e, ltS_irrefl] at this
   cases this
  ·rfl
  ·have := hc i hi j hlt
   rw [plAtt_some hx, plAtt_some hy, e, ltS_irrefl] at this
   cases this
theorem teamR {xs : List AsD} {ps : List PlD} (h : teamE xs ps = 0) : chkA xs = 0 ∧ chkP ps = 0 := ⟨firstE_zG h _ (by simp), firstE_zG h _ (by simp)⟩
theorem key_nonempty {k : ByteArray} (h : keyB k = true) : k ≠ ⟨#[]⟩ := by
 rintro rfl
 unfold keyB at h
 simp only [Bool.and_eq_true, decide_eq_true_eq] at h
 have h1 : 1 ≤ (0 : Nat) := h.1.1.1
 omega
theorem RiseA.once {xs : List AsD} (h : RiseA xs) : OnceA xs := once_of h.nodup
theorem fieldR_congr {l m : List AsD} (ho : OnceA l) (hp : m.Perm l) (p : List PlD) : fieldR m p = fieldR l p := by
 unfold fieldR
 congr 1
 funext y
 unfold ofR
 rw [rank_congr (once_filter ho _) (hp.filter _)]
theorem sumC_all {ps : List PlD} {xs : List AsD} (hp : OnceP ps) (ho : OnceA xs) : sumC (fieldP ps TheAll xs) = sumV (fieldR xs ps) := by
 have h := field_perm hp ho TheAll
 have e : (xs.filter fun x => TheAll x.player) = xs := List.filter_eq_self.2 fun _ _ => rfl
 rw [e] at h
 exact sumV_perm h
theorem names_all {ps : List PlD} {xs : List AsD} (hp : OnceP ps) (ho : OnceA xs) : sortL (namesA ((fieldP ps TheAll xs).map Prod.fst)) = sortL (namesA (fieldR xs ps)) := by
 have h := field_perm hp ho TheAll
 have e : (xs.filter fun x => TheAll x.player) = xs := List.filter_eq_self.2 fun _ _ => rfl
 rw [e] at h
 exact sortL_perm (h.map AsD.player)
theorem sumC_but {ps : List PlD} {xs : List AsD} (hp : OnceP ps) (ho : OnceA xs) (k : ByteArray) : sumC (fieldP ps (fun q => !beqS q k) xs) = sumV (fieldR (lessA xs k) ps) := sumV_perm (field_perm hp ho fun q => !beqS q k)
/-- What one more brings. -/
theorem brings_eq {ps : List PlD} {xs : List AsD} {x : AsD} (hp : OnceP ps) (hr : RiseA xs) (hx : ∀ y ∈ xs, y.player ≠ x.player) :
  sumC (fieldP ps TheAll (xs ++ [x])) - sumC (fieldP ps (fun k => !beqS k x.player) (xs ++ [x])) = sumV (fieldR (withA xs x) ps) - sumV (fieldR xs ps) := by
 have ho := (rank_more hr.once hx).1
 rw [sumC_all hp ho, sumC_but hp ho, fieldR_congr ho (withA_perm xs x)]
 have e : lessA (xs ++ [x]) x.player = xs := by
  unfold lessA; rw [List.filter_append]
  have e1 : (xs.filter fun z => !beqS z.player x.player) = xs := List.filter_eq_self.2 fun z hz => by
   cases hq : beqS z.player x.player
   ·rfl
   ·exact absurd (beqS_iff.1 hq) (hx z hz)
  have e2 : ([x].filter fun z => !beqS z.player x.player) = [] := by simp [beqS_self]
  rw [e1, e2, List.append_nil]
 rw [e]
theorem minAs_minL (cf : AsD → AsD → Int) : ∀ (l : List AsD) (m : AsD), minAs cf m l = minL cf m l
 | [], _ => rfl
 | x :: l, m => by unfold minAs minL; exact minAs_minL cf l _
/-- Whom to drop. -/
theorem drop_same {ps : List PlD} {a : AsD} {l : List AsD} (hp : OnceP ps) (hr : RiseA (a :: l)) (hk : ∀ x ∈ a :: l, keyB x.player = true) :
  (minAs (cmpDrop fun z => sumC (fieldP ps (fun k => !beqS k z.player) (a :: l))) a l).player = (dropR (restR (a :: l) ps) ⟨⟨#[]⟩, 0, 0⟩ (a :: l)).best := by
 have e : (fun z : AsD => sumC (fieldP ps (fun k => !beqS k z.player) (a :: l))) = restR (a :: l) ps := by
  funext z
  exact sumC_but hp hr.once z.player
 rw [e, drop_eq (restR (a :: l) ps) (fun x hx => key_nonempty (hk x hx)) hr, minAs_minL]
theorem brE_eq {xs : List AsD} {ps : List PlD} {x : AsD} : brE xs ps x = firstE [teamE xs ps, moreE xs x] := by
 by_cases h : teamE xs ps = 0
 ·have hr := (asR (teamR h).1).2
  unfold brE moreE isB
  rw [has_found hr, h, show decide ((xs.length : Int) < 300) = decide (xs.length < 300) by rw [decide_eq_decide]; omega]
  rw [then_first, if_pos rfl]; show firstE (0 :: _) = _
  unfold firstE; rw [if_pos rfl]; rfl
 ·rw [then_first, if_neg h]
  unfold brE firstE
  rw [if_neg h]
theorem brR {xs : List AsD} {ps : List PlD} {x : AsD} (h : brE xs ps x = 0) : teamE xs ps = 0 ∧ moreE xs x = 0 ∧ FitA x ∧ ∀ y ∈ xs, y.player ≠ x.player := by
 rw [brE_eq] at h
 have h1 := firstE_zG h _ (by simp : teamE xs ps ∈ _)
 have h2 := firstE_zG h (moreE xs x) (by simp)
 have h3 : chkA [x] = 0 := firstE_zG h2 _ (by simp)
 have h4 := unlessE_zG (by omega) (firstE_zG h2 (unlessE (!hasA xs x.player) 6) (by simp))
 refine ⟨h1, h2, ((asR h3).1 x (by simp)).2, fun y hy e => ?_⟩
 have : hasA xs x.player = true := List.any_eq_true.2 ⟨y, hy, by rw [e]; exact beqS_self _⟩
 rw [this] at h4
 cases h4
end Go.Proofs.YtddnnjblpgfjeaaGreatDoor
namespace Go.Proofs.YtddnnjblpgfjeaaGreatDoor
open Go.RowKit

def brV (xs : List AsD) (ps : List PlD) (x : AsD) : Int := if brE xs ps x = 0 then sumV (fieldR (withA xs x) ps) - sumV (fieldR xs ps) else 0
theorem smallP_of {ps : List PlD} {xs : List AsD} (h : teamE xs ps = 0) : (∀ y ∈ ps, 0 ≤ y.many ∧ y.many ≤ 12) ∧ ps.length ≤ 10 ∧ OnceP ps := plR (teamR h).2
theorem fit_of {xs : List AsD} {ps : List PlD} (h : teamE xs ps = 0) : ∀ x ∈ xs, FitA x := fun x hx => ((asR (teamR h).1).1 x hx).2
theorem rise_of {xs : List AsD} {ps : List PlD} (h : teamE xs ps = 0) : RiseA xs := (asR (teamR h).1).2
theorem fielded_tell (lo lo' : Nat) (v u : Value) (xs : List AsD) (ps : List PlD) (w : World) (hv : Ass w lo v xs) (hs : ∀ c ∈ xs, SmallA c) (hn : xs.length ≤ 11) (hP : Pls w lo' u ps) (hp : ∀ c ∈ ps, SmallP c) (he : teamE xs ps = 0) :
  Calls Tryz.prog 42 #[v, u] w (ThreeOf (sumV (fieldR xs ps)) (sortL (namesA (fieldR xs ps))) w) := by
 have h := fieldedF_right lo lo' v u xs ps w hv hs (by omega) hP hp (smallP_of he).2.1 (smallP_of he).2.2 (fit_of he) he
 rwa [sumC_all (smallP_of he).2.2 (rise_of he).once, names_all (smallP_of he).2.2 (rise_of he).once] at h
theorem brings_tell (lo lo' : Nat) (v u : Value) (xs : List AsD) (ps : List PlD) (x : AsD) (w : World) (hv : Ass w lo v xs) (hs : ∀ c ∈ xs, SmallA c) (hn : xs.length ≤ 11) (hP : Pls w lo' u ps) (hp : ∀ c ∈ ps, SmallP c) (hm : ps.length ≤ 1000) (hsx : SmallA x) :
  Calls Tryz.prog 43 #[v, u, .agg #[.string x.player, .string x.pos, .int .i64 x.value]] w (NumErr (brV xs ps x) (brE xs ps x) w) := by
 by_cases h : brE xs ps x = 0
 ·obtain ⟨h1, _, h3, h4⟩ := brR h
  have := brings_right lo lo' v u xs ps x w hv hs hn hP hp (smallP_of h1).2.1 hsx (smallP_of h1).2.2 (fit_of h1) h3 h
  rw [brings_eq (smallP_of h1).2.2 (rise_of h1) h4] at this
  unfold brV; rw [if_pos h, h]; exact this
 ·unfold brV
  rw [if_neg h]; exact brings_wrong lo lo' v u xs ps x w hv hs (by omega) hP hp hm hsx h
theorem bringsOf_tell (lo lo' : Nat) (v u : Value) (xs : List AsD) (ps : List PlD) (x : AsD) (w : World) (hv : Ass w lo v xs) (hn : xs.length ≤ 11) (hP : Pls w lo' u ps) (h : brE xs ps x = 0) :
  Calls Tryz.prog 46 #[v, u, .agg #[.string x.player, .string x.pos, .int .i64 x.value]] w (IntBelow (brV xs ps x) w) := by
 obtain ⟨h1, _, h3, h4⟩ := brR h
 unfold brV
 rw [if_pos h]
 exact bringsOf_calls lo lo' v u xs ps x w hv hP (rise_of h1) hn (fit_of h1) h3 h4 (smallP_of h1).2.1 (smallP_of h1).1
def bestD (xs : List AsD) (ps : List PlD) : ByteArray := (dropR (restR xs ps) ⟨⟨#[]⟩, 0, 0⟩ xs).best
theorem drop_tell (lo lo' : Nat) (v u : Value) (xs : List AsD) (ps : List PlD) (w : World) (hv : Ass w lo v xs) (hs : ∀ c ∈ xs, SmallA c) (hn : xs.length ≤ 11) (hP : Pls w lo' u ps) (hp : ∀ c ∈ ps, SmallP c) (he : teamE xs ps = 0) :
  Calls Tryz.prog 44 #[v, u] w (WhoIs (bestD xs ps) (!(bestD xs ps).toList.isEmpty) 0 w) := by
 cases xs with
 | nil =>
  rw [show bestD [] ps = ⟨#[]⟩ from rfl, show (!(⟨#[]⟩ : ByteArray).toList.isEmpty) = false by rw [empty_of]; rfl]
  exact drop_none lo lo' v u ps w hv hP hp (by have := (smallP_of he).2.1; omega) he
 | cons a l =>
  have h := drop_right lo lo' v u a l ps w hv hs (by omega) hP hp (smallP_of he).2.1 (smallP_of he).2.2 (fit_of he) he
  rw [drop_same (smallP_of he).2.2 (rise_of he) (fun x hx => ((asR (teamR he).1).1 x hx).1)] at h
  have hb : (!(bestD (a :: l) ps).toList.isEmpty) = true := by
   have e : bestD (a :: l) ps = (minL (cmpDrop (restR (a :: l) ps)) a l).player := drop_eq _ (fun x hx => key_nonempty (((asR (teamR he).1).1 x hx).1)) (rise_of he)
   have hm := minL_mem (cmpDrop (restR (a :: l) ps)) l a; have hk := key_nonempty ((asR (teamR he).1).1 _ hm).1; rw [e, empty_of]; rw [decide_eq_false]
   ·rfl
   ·intro hz
    refine hk ?_; cases hsb : (minL (cmpDrop (restR (a :: l) ps)) a l).player with | mk b => rw [hsb] at hz; exact congrArg ByteArray.mk (Array.eq_empty_of_size_eq_zero hz)
  rw [hb]; exact h
end Go.Proofs.YtddnnjblpgfjeaaGreatDoor
