/- A sort by insertion keeps the order of equal ones: where the list rises by Player, to sort by Value is to sort by Value and Player. -/
import Derived.Sort.LotA
import Derived.Test.YtddnnjblpgfjeaaGreatDoorMgad
/- Assets and places, plainly: whom a team fields, in the program's way and in the reference's. -/
namespace Go.Proofs.YtddnnjblpgfjeaaGreatDoor
open Go.Sort

/-- An asset, and a place. -/
structure AsD where
 player : ByteArray
 pos : ByteArray
 value : Int
instance : Inhabited AsD := ⟨⟨⟨#[]⟩, ⟨#[]⟩, 0⟩⟩
structure PlD where
 pos : ByteArray
 many : Int
instance : Inhabited PlD := ⟨⟨⟨#[]⟩, 0⟩⟩

theorem CmpOk.rev {α : Type} {cf : α → α → Int} (h : CmpOk cf) : CmpOk fun x y => cf y x where
 flip x y := h.flip y x
 le x y z h1 h2 := h.le z y x h2 h1
/-- The greater Value first; of equal ones by Player. -/
def cmpDown (x y : AsD) : Int := Go.Lib.compareInt y.value x.value
def cmpWho (x y : AsD) : Int := cmpS x.player y.player
def cmpRank : AsD → AsD → Int := thenC cmpDown cmpWho
theorem cmpDown_ok : CmpOk cmpDown := (CmpOk.on compareInt_ok AsD.value).rev
theorem cmpWho_ok : CmpOk cmpWho := CmpOk.on cmpS_ok AsD.player
theorem cmpRank_ok : CmpOk cmpRank := cmpDown_ok.then cmpWho_ok
/-- No two of one name. -/
def OnceA (l : List AsD) : Prop := ∀ x ∈ l, ∀ y ∈ l, x.player = y.player → x = y
def RiseA (l : List AsD) : Prop := l.Pairwise fun x y => cmpWho x y < 0
theorem RiseA.nodup {l : List AsD} (h : RiseA l) : l.Pairwise fun x y => x.player ≠ y.player :=
 h.imp fun {x y} h e => by unfold cmpWho at h; rw [e, cmpS_ok.self] at h; omega
theorem once_of {l : List AsD} (h : l.Pairwise fun x y => x.player ≠ y.player) : OnceA l := by
 induction l with
 | nil => intro x hx; cases hx
 | cons a l ih =>
  obtain ⟨h1, h2⟩ := List.pairwise_cons.1 h; intro x hx y hy e; rcases List.mem_cons.1 hx with ex | hx
  ·rcases List.mem_cons.1 hy with ey | hy
   ·rw [ex, ey]
   ·exact absurd (ex ▸ e) (h1 y hy)
  ·rcases List.mem_cons.1 hy with ey | hy
   ·exact absurd (ey ▸ e).symm (h1 x hx)
   ·exact ih h2 x hx y hy e
/-- A list in order by a comparing function. -/
def Ordered {α : Type} (cf : α → α → Int) (l : List α) : Prop := l.Pairwise fun x y => cf x y ≤ 0
theorem ordered_ext {α : Type} {cf : α → α → Int} (h : CmpOk cf) {l m : List α} (hl : Ordered cf l) (hm : Ordered cf m) (hp : l.Perm m) (hd : ∀ x ∈ l, ∀ y ∈ l, cf x y = 0 → x = y) : l = m := by
 refine hp.eq_of_pairwise (le := fun x y => cf x y ≤ 0) (fun a b ha hb h1 h2 => hd a ha b (hp.mem_iff.2 hb) ?_) hl hm
 have f := h.flip a b
 have g := h.flip b a
 omega
/-- The kit's insertion sort, on lists. -/
def insL {α : Type} [Inhabited α] (cf : α → α → Int) (l : List α) : List α := (insertionSort (ltC cf) l.toArray 0 l.length).toList
theorem insL_perm {α : Type} [Inhabited α] {cf : α → α → Int} (h : CmpOk cf) (l : List α) : (insL cf l).Perm l := by
 have := (insertionSort_holds (lt := ltC cf) h.swo l.toArray 0 l.length (Nat.zero_le _) (by simp)).1
 obtain ⟨h1, _, h3⟩ := this
 have e1 : l.toArray.extract 0 l.length = l.toArray := by simp
 have e2 : ∀ d : Array α, d.size = l.length → d.extract 0 l.length = d := fun d hd => by rw [← hd]; simp
 rw [e1, e2 _ (by simpa using h1)] at h3
 exact h3
theorem insL_ordered {α : Type} [Inhabited α] {cf : α → α → Int} (h : CmpOk cf) (l : List α) : Ordered cf (insL cf l) := by
 obtain ⟨h0, h1⟩ := insertionSort_holds (lt := ltC cf) h.swo l.toArray 0 l.length (Nat.zero_le _) (by simp)
 have hs : (insertionSort (ltC cf) l.toArray 0 l.length).size = l.length := by simpa using h0.1
 unfold Ordered insL
 rw [List.pairwise_iff_getElem]
 intro i j hi hj hij
 have hi' : i < (insertionSort (ltC cf) l.toArray 0 l.length).size := by simpa using hi
 have hj' : j < (insertionSort (ltC cf) l.toArray 0 l.length).size := by simpa using hj
 have := h1 i j (Nat.zero_le _) hij (by omega)
 rw [getElem!_pos _ i hi', getElem!_pos _ j hj'] at this
 simp only [Array.getElem_toList]
 generalize (insertionSort (ltC cf) l.toArray 0 l.length)[j] = y at *
 generalize (insertionSort (ltC cf) l.toArray 0 l.length)[i] = x at *
 have h2 := h.flip y x
 have h3 := of_decide_eq_false (show decide (cf y x < 0) = false from this)
 have h4 := h.flip x y
 omega

theorem insInner_size {α : Type} [Inhabited α] (lt : α → α → Bool) (a : Nat) : ∀ (j : Nat) (d : Array α), (insInner lt a j d).size = d.size
 | 0, d => rfl
 | j + 1, d => by
  unfold insInner; split
  ·rw [insInner_size lt a j]; unfold swp; simp
  ·rfl
theorem insOuter_size {α : Type} [Inhabited α] (lt : α → α → Bool) (a b : Nat) : ∀ (m i : Nat) (d : Array α), b - i ≤ m → (insOuter lt a b i d).size = d.size
 | 0, i, d, h => by rw [insOuter, if_neg (by omega)]
 | m + 1, i, d, h => by
  rw [insOuter]; split
  ·rw [insOuter_size lt a b m (i + 1) _ (by omega), insInner_size]
  ·rfl
theorem insL_len {α : Type} [Inhabited α] (cf : α → α → Int) (l : List α) : (insL cf l).length = l.length := by
 unfold insL insertionSort
 rw [Array.length_toList, insOuter_size _ _ _ l.length _ _ (by omega)]
 simp
/-- Assets in their order: the greatest first. -/
def rank (l : List AsD) : List AsD := insL cmpRank l
theorem rank_perm (l : List AsD) : (rank l).Perm l := insL_perm cmpRank_ok l
theorem rank_ordered (l : List AsD) : Ordered cmpRank (rank l) := insL_ordered cmpRank_ok l
theorem once_perm {l m : List AsD} (h : OnceA l) (hp : m.Perm l) : OnceA m := fun x hx y hy e => h x (hp.mem_iff.1 hx) y (hp.mem_iff.1 hy) e
theorem cmpRank_zero {l : List AsD} (h : OnceA l) : ∀ x ∈ l, ∀ y ∈ l, cmpRank x y = 0 → x = y := by
 intro x hx y hy e
 unfold cmpRank thenC at e
 split at e
 ·exact h x hx y hy (cmpS_sameC e)
 ·omega
theorem rank_ext {l m : List AsD} (ho : OnceA l) (hm : Ordered cmpRank m) (hp : m.Perm l) : m = rank l :=
 ordered_ext cmpRank_ok hm (rank_ordered l) (hp.trans (rank_perm l).symm) (cmpRank_zero (once_perm ho hp))
theorem ordered_filter {α : Type} {cf : α → α → Int} {l : List α} (h : Ordered cf l) (q : α → Bool) : Ordered cf (l.filter q) := List.Pairwise.sublist List.filter_sublist h
theorem once_filter {l : List AsD} (h : OnceA l) (q : AsD → Bool) : OnceA (l.filter q) := fun x hx y hy e => h x (List.mem_filter.1 hx).1 y (List.mem_filter.1 hy).1 e
theorem rank_filter {l : List AsD} (ho : OnceA l) (q : AsD → Bool) : rank (l.filter q) = (rank l).filter q :=
 (rank_ext (once_filter ho q) (ordered_filter (rank_ordered l) q) ((rank_perm l).filter q)).symm
theorem rank_down (l : List AsD) : Ordered cmpDown (rank l) := (rank_ordered l).imp fun {x y} h => by
 unfold cmpRank thenC at h
 split at h
 ·omega
 ·exact h
theorem cmpDown_le {x y : AsD} : cmpDown x y ≤ 0 ↔ y.value ≤ x.value := by
 unfold cmpDown Go.Lib.compareInt
 split
 ·omega
 ·split <;> omega

/-- What is worth fielding stands ahead. -/
theorem take_worth {s : List AsD} (h : Ordered cmpDown s) : ∀ k, (s.take k).filter (fun x => decide (0 < x.value)) = (s.filter fun x => decide (0 < x.value)).take k := by
 induction s with
 | nil => intro k; simp
 | cons a s ih =>
  obtain ⟨h1, h2⟩ := List.pairwise_cons.1 h; intro k; cases k with
  | zero => simp
  | succ k =>
   by_cases ha : 0 < a.value
   ·simp [List.filter_cons, ha, ih h2 k]
   ·have hn : ∀ x ∈ a :: s, ¬ (decide (0 < x.value) = true) := by
     intro x hx; rcases List.mem_cons.1 hx with rfl | hx
     ·simpa using ha
     ·have := cmpDown_le.1 (h1 x hx)
      simp; omega
    rw [List.filter_eq_nil_iff.2 hn, List.filter_eq_nil_iff.2 fun x hx => hn x (List.mem_of_mem_take hx)]
    simp
def sumV (l : List AsD) : Int := (l.map AsD.value).sum
theorem sumV_perm {l m : List AsD} (h : l.Perm m) : sumV l = sumV m := by
 induction h with
 | nil => rfl
 | cons x _ ih => unfold sumV at *; simp [ih]
 | swap x y l => unfold sumV; simp; omega
 | trans _ _ h1 h2 => exact h1.trans h2
theorem sumV_append (l m : List AsD) : sumV (l ++ m) = sumV l + sumV m := by unfold sumV; simp
/-- The reference: for each place the best of its position. -/
def ofR (l : List AsD) (pos : ByteArray) : List AsD := rank (l.filter fun x => beqS x.pos pos)
def worthy (x : AsD) : Bool := decide (0 < x.value)
def fieldR (l : List AsD) (p : List PlD) : List AsD := p.flatMap fun y => ((ofR l y.pos).take y.many.toNat).filter worthy

/-- The program: candidates, and who is taken of them. -/
def plAt (p : List PlD) (pos : ByteArray) : Option Nat := p.findIdx? fun y => beqS y.pos pos
def candOf (p : List PlD) (x : AsD) : Option (AsD × Nat) := if worthy x then (plAt p x.pos).map fun i => (x, i) else none
def cands (p : List PlD) (l : List AsD) : List (AsD × Nat) := (rank l).filterMap (candOf p)
def manyAt (p : List PlD) (i : Nat) : Int := (p[i]?.getD default).many
def fldP (p : List PlD) (has : ByteArray → Bool) : List (AsD × Nat) → List Nat → List (AsD × Nat)
 | [], _ => []
 | c :: cs, m => if decide (((m[c.2]?.getD 0 : Nat) : Int) < manyAt p c.2) && has c.1.player then c :: fldP p has cs (m.set c.2 (m[c.2]?.getD 0 + 1)) else fldP p has cs m
def fieldP (p : List PlD) (has : ByteArray → Bool) (l : List AsD) : List (AsD × Nat) := fldP p has (cands p l) (List.replicate p.length 0)

theorem fldP_sub (p : List PlD) (has : ByteArray → Bool) : ∀ (cs : List (AsD × Nat)) (m : List Nat), ∀ c ∈ fldP p has cs m, c ∈ cs
 | [], _, c, h => by simp [fldP] at h
 | d :: cs, m, c, h => by
  unfold fldP at h
  split at h
  ·rcases List.mem_cons.1 h with rfl | h
   ·simp
   ·exact List.mem_cons_of_mem _ (fldP_sub p has cs _ c h)
  ·exact List.mem_cons_of_mem _ (fldP_sub p has cs _ c h)
/-- Of each place the first that there is room for. -/
theorem fldP_at (p : List PlD) (has : ByteArray → Bool) (i : Nat) : ∀ (cs : List (AsD × Nat)) (m : List Nat), (∀ c ∈ cs, c.2 < m.length) →
  (fldP p has cs m).filter (fun c => c.2 == i) = (cs.filter fun c => c.2 == i && has c.1.player).take ((manyAt p i).toNat - m[i]?.getD 0)
 | [], m, _ => by simp [fldP]
 | c :: cs, m, h => by
  have hc : c.2 < m.length := h c (by simp)
  have hcs : ∀ d ∈ cs, d.2 < m.length := fun d hd => h d (by simp [hd])
  unfold fldP; by_cases hi : c.2 = i
  ·subst hi
   by_cases hh : has c.1.player = true
   ·by_cases hm : ((m[c.2]?.getD 0 : Nat) : Int) < manyAt p c.2
    ·rw [if_pos (by simp [hm, hh])]
     rw [List.filter_cons_of_pos (by simp), List.filter_cons_of_pos (by simp [hh])]
     rw [fldP_at p has c.2 cs _ (fun d hd => by simpa using hcs d hd)]
     rw [List.getElem?_set_self hc]; obtain ⟨k, hk⟩ : ∃ k, (manyAt p c.2).toNat - m[c.2]?.getD 0 = k + 1 := ⟨(manyAt p c.2).toNat - m[c.2]?.getD 0 - 1, by omega⟩
     rw [hk, List.take_succ_cons]; congr 2
     simp only [Option.getD_some]; omega
    ·rw [if_neg (by simp [hm])]
     rw [fldP_at p has c.2 cs m hcs]; have : (manyAt p c.2).toNat - m[c.2]?.getD 0 = 0 := by omega
     rw [this]; simp
   ·rw [if_neg (by simp [hh])]
    rw [fldP_at p has c.2 cs m hcs, List.filter_cons_of_neg (by simp [hh])]
  ·have hf : (c :: cs).filter (fun c => c.2 == i && has c.1.player) = cs.filter fun c => c.2 == i && has c.1.player := List.filter_cons_of_neg (by simp [hi])
   rw [hf]; split
   ·rw [List.filter_cons_of_neg (by simpa using hi), fldP_at p has i cs _ (fun d hd => by simpa using hcs d hd)]
    rw [List.getElem?_set_ne hi]
   ·exact fldP_at p has i cs m hcs
/-- A list, part by part. -/
theorem parts_perm {α : Type} (f : α → Nat) (l : List α) : ∀ n, (l.filter fun c => decide (f c < n)).Perm ((List.range n).flatMap fun i => l.filter fun c => f c == i)
 | 0 => by simp
 | n + 1 => by
  rw [List.range_succ, List.flatMap_append]; have h := (List.filter_append_perm (fun c => decide (f c < n)) (l.filter fun c => decide (f c < n + 1))).symm
  refine h.trans ?_; refine List.Perm.append ?_ ?_
  ·rw [List.filter_filter]
   have e : (l.filter fun a => decide (f a < n) && decide (f a < n + 1)) = l.filter fun a => decide (f a < n) := by
    refine List.filter_congr fun x _ => ?_
    rw [Bool.eq_iff_iff]; simp; omega
   rw [e]; exact parts_perm f l n
  ·rw [List.filter_filter]
   simp only [List.flatMap_cons, List.flatMap_nil, List.append_nil]
   have e : (l.filter fun a => (!decide (f a < n)) && decide (f a < n + 1)) = l.filter fun a => f a == n := by
    refine List.filter_congr fun x _ => ?_
    rw [Bool.eq_iff_iff]; simp; omega
   rw [e]
theorem flatMap_range {α β : Type} [Inhabited α] (l : List α) (f : α → List β) (g : Nat → List β) (h : ∀ i x, l[i]? = some x → g i = f x) : (List.range l.length).flatMap g = l.flatMap f := by
 induction l generalizing g with
 | nil => rfl
 | cons a l ih =>
  rw [List.length_cons, List.range_succ_eq_map, List.flatMap_cons, List.flatMap_map, List.flatMap_cons, h 0 a (by simp)]
  congr 1
  exact ih (fun i => g (i + 1)) fun i x hx => h (i + 1) x (by simpa using hx)
/-- No two places of one position. -/
def OnceP (p : List PlD) : Prop := ∀ (i j : Nat) (x y : PlD), p[i]? = some x → p[j]? = some y → x.pos = y.pos → i = j
theorem plAt_eq {p : List PlD} (hp : OnceP p) {i : Nat} {y : PlD} (hy : p[i]? = some y) (pos : ByteArray) : (plAt p pos == some i) = beqS pos y.pos := by
 unfold plAt
 cases hf : p.findIdx? fun y => beqS y.pos pos with
 | none =>
  have := List.findIdx?_eq_none_iff.1 hf y (List.mem_of_getElem? hy)
  cases hb : beqS pos y.pos with
  | false => rfl
  | true =>
   have e := beqS_iff.1 hb; subst e; rw [beqS_self] at this; cases this
 | some j =>
  obtain ⟨hj, hb, _⟩ := List.findIdx?_eq_some_iff_getElem.1 hf; have e := beqS_iff.1 hb; by_cases hij : j = i
  ·subst hij
   have : p[j] = y := by rw [List.getElem?_eq_getElem hj] at hy; exact Option.some.inj hy
   rw [← e, this, beqS_self]; simp
  ·have : beqS pos y.pos = false := by
    cases hb2 : beqS pos y.pos with
    | false => rfl
    | true => exact absurd (hp j i _ y (List.getElem?_eq_getElem hj) hy (e.trans (beqS_iff.1 hb2))) hij
   rw [this]; simpa using hij
theorem cands_at {p : List PlD} (hp : OnceP p) {i : Nat} {y : PlD} (hy : p[i]? = some y) (has : ByteArray → Bool) : ∀ L : List AsD,
  ((L.filterMap (candOf p)).filter fun c => c.2 == i && has c.1.player).map Prod.fst = L.filter fun x => (beqS x.pos y.pos && worthy x) && has x.player
 | [] => rfl
 | x :: L => by
  have ih := cands_at hp hy has L; have e := plAt_eq hp hy x.pos; unfold candOf at *
  by_cases hw : worthy x = true
  ·cases hq : plAt p x.pos with
   | none =>
    have hb : beqS x.pos y.pos = false := by rw [← e, hq]; rfl
    rw [List.filterMap_cons_none (by simp [hw, hq]), ih, List.filter_cons_of_neg (by simp [hb])]
   | some j =>
    rw [List.filterMap_cons_some (b := (x, j)) (by simp [hw, hq])]
    rw [hq] at e
    by_cases hij : j = i
    ·subst hij
     have hb : beqS x.pos y.pos = true := by rw [← e]; simp
     by_cases hh : has x.player = true
     ·rw [List.filter_cons_of_pos (by simp [hh]), List.filter_cons_of_pos (by simp [hb, hw, hh]), List.map_cons, ih]
     ·rw [List.filter_cons_of_neg (by simp [hh]), List.filter_cons_of_neg (by simp [hh]), ih]
    ·have hb : beqS x.pos y.pos = false := by rw [← e]; simpa using hij
     rw [List.filter_cons_of_neg (by simp [hij]), List.filter_cons_of_neg (by simp [hb]), ih]
  ·rw [List.filterMap_cons_none (by simp [hw]), ih, List.filter_cons_of_neg (by simp [hw])]
theorem cands_lt {p : List PlD} {l : List AsD} : ∀ c ∈ cands p l, c.2 < p.length := by
 intro c hc
 obtain ⟨x, _, hx⟩ := List.mem_filterMap.1 hc
 unfold candOf at hx
 split at hx
 ·cases hq : plAt p x.pos with
  | none => rw [hq] at hx; cases hx
  | some j =>
   rw [hq] at hx
   cases hx
   exact (List.findIdx?_eq_some_iff_getElem.1 hq).1
 ·cases hx
/-- Both ways field the same. -/
theorem field_perm {p : List PlD} (hp : OnceP p) {l : List AsD} (ho : OnceA l) (has : ByteArray → Bool) :
  ((fieldP p has l).map Prod.fst).Perm (fieldR (l.filter fun x => has x.player) p) := by
 have h1 : (fieldP p has l).filter (fun c => decide (c.2 < p.length)) = fieldP p has l := List.filter_eq_self.2 fun c hc => by
  have := cands_lt c (fldP_sub _ _ _ _ c hc); simpa using this
 have h2 := parts_perm (fun c : AsD × Nat => c.2) (fieldP p has l) p.length
 rw [h1] at h2
 refine (h2.map Prod.fst).trans ?_
 rw [List.map_flatMap]
 unfold fieldR
 rw [flatMap_range p (fun y => ((ofR (l.filter fun x => has x.player) y.pos).take y.many.toNat).filter worthy)]
 intro i y hy
 unfold fieldP
 rw [fldP_at p has i _ _ (fun c hc => by simpa using cands_lt c hc), List.map_take]
 unfold cands
 rw [cands_at hp hy has]
 have hm : (manyAt p i).toNat - (List.replicate p.length 0)[i]?.getD 0 = y.many.toNat := by
  have hi := (List.getElem?_eq_some_iff.1 hy).1; have e1 : manyAt p i = y.many := by unfold manyAt; rw [hy]; rfl
  rw [e1]; simp [hi]
 rw [hm]
 have hd : Ordered cmpDown (ofR (l.filter fun x => has x.player) y.pos) := rank_down _
 have ht := take_worth hd y.many.toNat
 show _ = ((ofR (l.filter fun x => has x.player) y.pos).take y.many.toNat).filter (fun x => decide (0 < x.value))
 rw [ht]
 congr 1
 unfold ofR
 rw [List.filter_filter, rank_filter ho, List.filter_filter]
 refine List.filter_congr fun x _ => ?_
 unfold worthy
 rw [Bool.eq_iff_iff]; simp only [Bool.and_eq_true, decide_eq_true_eq]
 exact ⟨fun h => ⟨h.1.2, h.1.1, h.2⟩, fun h => ⟨⟨h.2.1, h.1⟩, h.2.2⟩⟩
end Go.Proofs.YtddnnjblpgfjeaaGreatDoor
/- Whom to drop, plainly: the least by a comparing function = the last one that is no worse. -/
namespace Go.Proofs.YtddnnjblpgfjeaaGreatDoor

theorem cint_sgn (x y : Int) : (Go.Lib.compareInt x y < 0 ↔ x < y) ∧ (Go.Lib.compareInt x y = 0 ↔ x = y) := by
 unfold Go.Lib.compareInt
 split
 ·omega
 ·split <;> omega
end Go.Proofs.YtddnnjblpgfjeaaGreatDoor
namespace Go.Proofs.YtddnnjblpgfjeaaGreatDoor
open Go.Sort
variable {α : Type} [Inhabited α]

theorem get_setB (d : Array α) (i k : Nat) (v : α) (hi : i < d.size) : (d.setIfInBounds i v)[k]! = if k = i then v else d[k]! := by
 simp only [getElem!_def, Array.getElem?_setIfInBounds]
 by_cases h : i = k
 ·subst h; simp [hi]
 ·rw [if_neg h, if_neg (Ne.symm h)]
theorem get_swp (d : Array α) (i j k : Nat) (hi : i < d.size) (hj : j < d.size) : (swp d i j)[k]! = if k = j then d[i]! else if k = i then d[j]! else d[k]! := by
 unfold swp
 rw [get_setB _ _ _ _ (by simpa using hj), get_setB _ _ _ _ hi]
theorem size_swp (d : Array α) (i j : Nat) : (swp d i j).size = d.size := by unfold swp; simp
/-- The first i are of the first i of d0, the rest is as it was. -/
def Pre (d0 d : Array α) (i : Nat) : Prop := d.size = d0.size ∧ (∀ k, i ≤ k → d[k]! = d0[k]!) ∧ ∀ k, k < i → ∃ k', k' < i ∧ d[k]! = d0[k']!
theorem inner_same {l1 l2 : α → α → Bool} {d0 : Array α} {i : Nat} (hi : i < d0.size) (H : ∀ k, k < i → l1 d0[i]! d0[k]! = l2 d0[i]! d0[k]!) : ∀ (j : Nat) (d : Array α), j ≤ i → d.size = d0.size → d[j]! = d0[i]! → (∀ k, k ≤ i → k ≠ j → ∃ k', k' < i ∧ d[k]! = d0[k']!) → (∀ k, i < k → d[k]! = d0[k]!) →
  insInner l1 0 j d = insInner l2 0 j d ∧ Pre d0 (insInner l1 0 j d) (i + 1)
 | 0, d, _, hs, hj, hk, hr => ⟨rfl, hs, fun k h => hr k (by omega), fun k h => by
   by_cases e : k = 0
   ·subst e; exact ⟨i, by omega, hj⟩
   ·obtain ⟨k', h1, h2⟩ := hk k (by omega) e; exact ⟨k', by omega, h2⟩⟩
 | j + 1, d, hji, hs, hj, hk, hr => by
  have hl : l1 d[j + 1]! d[j]! = l2 d[j + 1]! d[j]! := by
   obtain ⟨k', h1, h2⟩ := hk j (by omega) (by omega)
   rw [hj, h2]; exact H k' h1
  unfold insInner; rw [← hl]; split
  ·refine inner_same hi H j _ (by omega) (by rw [size_swp]; exact hs) ?_ (fun k hki hkj => ?_) (fun k hki => ?_)
   ·rw [get_swp _ _ _ _ (by omega) (by omega), if_pos rfl]; exact hj
   ·rw [get_swp _ _ _ _ (by omega) (by omega), if_neg hkj]
    split
    ·exact hk j (by omega) (by omega)
    ·exact hk k hki (by omega)
   ·rw [get_swp _ _ _ _ (by omega) (by omega), if_neg (by omega), if_neg (by omega)]; exact hr k hki
  ·refine ⟨rfl, hs, fun k h => hr k (by omega), fun k h => ?_⟩
   by_cases e : k = j + 1
   ·subst e; exact ⟨i, by omega, hj⟩
   ·obtain ⟨k', h1, h2⟩ := hk k (by omega) e; exact ⟨k', by omega, h2⟩
theorem outer_eq (lt : α → α → Bool) (a b i : Nat) (d : Array α) : insOuter lt a b i d = if i < b then insOuter lt a b (i + 1) (insInner lt a i d) else d := by rw [insOuter]
theorem outer_same {l1 l2 : α → α → Bool} {d0 : Array α} (H : ∀ i k, k < i → i < d0.size → l1 d0[i]! d0[k]! = l2 d0[i]! d0[k]!) (b : Nat) (hb : b ≤ d0.size) : ∀ (m i : Nat) (d : Array α), b - i ≤ m → Pre d0 d i → insOuter l1 0 b i d = insOuter l2 0 b i d
 | 0, i, d, hm, _ => by rw [outer_eq l1, outer_eq l2, if_neg (by omega), if_neg (by omega)]
 | m + 1, i, d, hm, hp => by
  rw [outer_eq l1 0 b i, outer_eq l2 0 b i]; by_cases hlt : i < b
  ·rw [if_pos hlt, if_pos hlt]
   obtain ⟨h1, h2, h3⟩ := hp; obtain ⟨e1, e2⟩ := inner_same (l1 := l1) (l2 := l2) (show i < d0.size by omega) (fun k hk => H i k hk (by omega)) i d (Nat.le_refl _) h1 (h2 i (Nat.le_refl _)) (fun k hki hne => h3 k (by omega)) (fun k hki => h2 k (by omega))
   rw [← e1]; exact outer_same H b hb m (i + 1) _ (by omega) e2
  ·rw [if_neg hlt, if_neg hlt]
theorem insL_same {c1 c2 : α → α → Int} {l : List α} (H : l.Pairwise fun x y => (c1 y x < 0 ↔ c2 y x < 0)) : insL c1 l = insL c2 l := by
 unfold insL insertionSort
 rw [outer_same (l1 := ltC c1) (l2 := ltC c2) (d0 := l.toArray) ?_ l.length (by simp) l.length 1 l.toArray (by omega) ⟨rfl, fun _ _ => rfl, fun k hk => ⟨k, hk, rfl⟩⟩]
 intro i k hki hi
 have hi' : i < l.length := by simpa using hi
 have := List.pairwise_iff_getElem.1 H k i (by omega) hi' hki
 unfold ltC
 rw [getElem!_pos _ i hi, getElem!_pos _ k (by simp; omega)]
 simp only [List.getElem_toArray]
 exact decide_eq_decide.2 this
/-- To sort a rising list by Value alone keeps the order of equal ones. -/
theorem down_rank {l : List AsD} (h : RiseA l) : insL cmpDown l = rank l := by
 refine insL_same (h.imp fun {x y} h => ?_)
 unfold cmpRank thenC
 have h2 := (cmpWho_ok.flip x y).1 h
 split
 ·rename_i e
  rw [e]; omega
 ·rfl
end Go.Proofs.YtddnnjblpgfjeaaGreatDoor
