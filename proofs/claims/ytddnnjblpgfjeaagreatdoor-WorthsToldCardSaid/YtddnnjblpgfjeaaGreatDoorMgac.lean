/- A drawn region walked in the order of its text, where a condition on the world is kept up behind those operations alone that may come ahead of one who reads by it. -/
import Derived.WalkKit
import Derived.Deep.RegionHeld3
/- A drawn region walked in the order of its text: the operation's slot is given, so that the frame stays written out. -/
namespace Go.Proofs.YtddnnjblpgfjeaaGreatDoor
open Go
section
variable {P : Program} {ops : Array Oper} {Q : Exit → Act → World → Prop} {md : Region.Mode} {S : World → Prop}
/-- The beginning, the operations under a name of their own. -/
theorem region_start {id : Nat} {a : Act} {w : World} (n : Nat) (S : World → Prop) (hm : P.follows .mixedOrders = true) (hn : ops.size = n) (hS : S w.drew) (h : S w.drew → wpAnyH P .any ops Q S n (Array.replicate n false) a w.drew) : (Code.region id ops true).wp P Q a w :=
 wp_region_held_drew hm hS (by rw [hn]; exact h)
/-- Number i yields v in every world that meets S: it is taken. -/
theorem take_at (i d : Nat) {oi : Oper} {v : Value} {fuel : Nat} {listed : Array Bool} {l : List Value} {df : List Deferred} {w : World} (hi : ops[i]? = some oi) (hd : oi.dst = some d)
  (hs : Region.noSelect ops = true) (hf : Region.free md ops listed i = true) (hr : (Region.ready md ops listed).contains i = true)
  (hQ : ∀ c a w, Q (.panic c) (a.put oi.dst v) w → Q (.panic c) a w) (hw : Region.wanted oi (yielded ops l.toArray) = true) (hy : ∀ w, S w → (execOp (Act.eval ⟨l.toArray, df⟩) oi).run P w = .ok (.value v) w) (hS : S w)
  (h : wpAnyH P md ops Q S fuel (listed.setIfInBounds i true) ⟨(l.set d v).toArray, df⟩ w) : wpAnyH P md ops Q S (fuel + 1) listed ⟨l.toArray, df⟩ w := by
 refine wpAnyH_take hi hs hf hr hQ (Or.inl ⟨hw, hy⟩) hS ?_
 rw [hd]
 simpa [Act.put] using h
/-- Number i does not run. -/
theorem skip_at (i d : Nat) {oi : Oper} {fuel : Nat} {listed : Array Bool} {l : List Value} {df : List Deferred} {w : World} (hi : ops[i]? = some oi) (hd : oi.dst = some d)
  (hs : Region.noSelect ops = true) (hf : Region.free md ops listed i = true) (hr : (Region.ready md ops listed).contains i = true)
  (hQ : ∀ c a w, Q (.panic c) (a.put oi.dst undef) w → Q (.panic c) a w) (hw : Region.wanted oi (yielded ops l.toArray) = false) (hS : S w)
  (h : wpAnyH P md ops Q S fuel (listed.setIfInBounds i true) ⟨(l.set d undef).toArray, df⟩ w) : wpAnyH P md ops Q S (fuel + 1) listed ⟨l.toArray, df⟩ w := by
 refine wpAnyH_take hi hs hf hr hQ (Or.inr ⟨hw, rfl⟩) hS ?_
 rw [hd]
 simpa [Act.put] using h
/-- Number i alone may come up, and runs. -/
theorem run_at (i : Nat) {oi : Oper} {fuel : Nat} {listed : Array Bool} {a : Act} {w : World} (hi : ops[i]? = some oi) (hr : Region.ready md ops listed = [i]) (hw : Region.wanted oi (yielded ops a.tmps) = true)
  (h : ∀ K' : Act → World → Prop, Shut (∀ a w, S w → (S w → wpAnyH P md ops Q S fuel (listed.setIfInBounds i true) a w) → K' a w) → Oper.wp P oi a w K' Q) : wpAnyH P md ops Q S (fuel + 1) listed a w :=
 wpAnyH_ready hr (by simp) (AllReadyH.cons hi (fun K hK => by rw [if_pos hw]; exact h K hK) AllReadyH.nil)
/-- The same, the list of those that have come up written out. -/
theorem take_to (i d : Nat) (l' : Array Bool) {oi : Oper} {v : Value} {fuel : Nat} {listed : Array Bool} {l : List Value} {df : List Deferred} {w : World} (hi : ops[i]? = some oi) (hd : oi.dst = some d)
  (hs : Region.noSelect ops = true) (hf : (Region.free md ops listed i && (Region.ready md ops listed).contains i) = true) (hl : listed.setIfInBounds i true = l')
  (hQ : ∀ c a w, Q (.panic c) (a.put oi.dst v) w → Q (.panic c) a w) (hw : Region.wanted oi (yielded ops l.toArray) = true) (hy : ∀ w, S w → (execOp (Act.eval ⟨l.toArray, df⟩) oi).run P w = .ok (.value v) w) (hS : S w)
  (h : wpAnyH P md ops Q S fuel l' ⟨(l.set d v).toArray, df⟩ w) : wpAnyH P md ops Q S (fuel + 1) listed ⟨l.toArray, df⟩ w := by
 subst hl
 rw [Bool.and_eq_true] at hf
 exact take_at i d hi hd hs hf.1 hf.2 hQ hw hy hS h
theorem skip_to (i d : Nat) (l' : Array Bool) {oi : Oper} {fuel : Nat} {listed : Array Bool} {l : List Value} {df : List Deferred} {w : World} (hi : ops[i]? = some oi) (hd : oi.dst = some d)
  (hs : Region.noSelect ops = true) (hf : (Region.free md ops listed i && (Region.ready md ops listed).contains i) = true) (hl : listed.setIfInBounds i true = l')
  (hQ : ∀ c a w, Q (.panic c) (a.put oi.dst undef) w → Q (.panic c) a w) (hw : Region.wanted oi (yielded ops l.toArray) = false) (hS : S w)
  (h : wpAnyH P md ops Q S fuel l' ⟨(l.set d undef).toArray, df⟩ w) : wpAnyH P md ops Q S (fuel + 1) listed ⟨l.toArray, df⟩ w := by
 subst hl
 rw [Bool.and_eq_true] at hf
 exact skip_at i d hi hd hs hf.1 hf.2 hQ hw hS h
theorem run_to (i : Nat) (l' : Array Bool) {oi : Oper} {fuel : Nat} {listed : Array Bool} {a : Act} {w : World} (hi : ops[i]? = some oi) (hr : Region.ready md ops listed = [i]) (hl : listed.setIfInBounds i true = l') (hw : Region.wanted oi (yielded ops a.tmps) = true)
  (h : ∀ K' : Act → World → Prop, Shut (∀ a w, S w → (S w → wpAnyH P md ops Q S fuel l' a w) → K' a w) → Oper.wp P oi a w K' Q) : wpAnyH P md ops Q S (fuel + 1) listed a w := by
 subst hl
 exact run_at i hi hr hw h
end
end Go.Proofs.YtddnnjblpgfjeaaGreatDoor
namespace Go.Proofs.YtddnnjblpgfjeaaGreatDoor
open Go
section
variable {P : Program} {ops : Array Oper} {Q : Exit → Act → World → Prop} {md : Region.Mode} {S T : World → Prop} {c : Nat → Bool}
/-- Whatever comes up next; behind number i, if c says so of it, S holds. -/
def heldC (P : Program) (md : Region.Mode) (ops : Array Oper) (Q : Exit → Act → World → Prop) (S : World → Prop) (c : Nat → Bool) : Nat → Array Bool → Act → World → Prop
 | 0, listed, a, w => Region.ready md ops listed = [] ∧ Q .normal a w
 | k + 1, listed, a, w => (Region.ready md ops listed = [] → Q .normal a w) ∧ ∀ i ∈ Region.ready md ops listed, wpOp P ops Q i (fun b W => (c i = true → S W) ∧ heldC P md ops Q S c k (listed.setIfInBounds i true) b W) a w
theorem heldC.any : ∀ (k : Nat) (listed : Array Bool) (a : Act) (w : World), heldC P md ops Q S c k listed a w → wpAny P md ops Q k listed a w
 | 0, _, _, _, h => h
 | k + 1, _, _, _, h => ⟨h.1, fun i hi => wpOp_mono (fun b W hb => heldC.any k _ b W hb.2) (h.2 i hi)⟩
/-- Does number j wait for number i, through others too? -/
def waitsB (md : Region.Mode) (ops : Array Oper) (i : Nat) : Nat → Nat → Bool
 | 0, _ => false
 | k + 1, j => match ops[j]? with
  | some o => o.after.any fun e => Region.binds md e && (e.on == i || waitsB md ops i k e.on)
  | none => false
/-- Have all come up for whom those wait who have? -/
def Closed (md : Region.Mode) (ops : Array Oper) (listed : Array Bool) : Prop := ∀ (j : Nat) (o : Oper), listed.getD j false = true → ops[j]? = some o → ∀ e ∈ o.after, Region.binds md e = true → listed.getD e.on false = true
def closedB (md : Region.Mode) (ops : Array Oper) (listed : Array Bool) : Bool := (List.range ops.size).all fun j => !listed.getD j false || (match ops[j]? with | some o => o.after.all fun e => !Region.binds md e || listed.getD e.on false | none => true)
theorem closed_of {listed : Array Bool} (h : closedB md ops listed = true) : Closed md ops listed := by
 intro j o hl ho e he hb
 have h1 := (List.all_eq_true.1 h) j (List.mem_range.2 (Array.getElem?_eq_some_iff.1 ho).1)
 simp only [ho, hl, Bool.not_true, Bool.false_or, Array.all_eq_true_iff_forall_mem] at h1
 have h2 := h1 e he
 simpa [hb] using h2
theorem waits_none {listed : Array Bool} (hc : Closed md ops listed) {i : Nat} (hi : listed.getD i false = false) : ∀ k j, listed.getD j false = true → waitsB md ops i k j = false
 | 0, _, _ => rfl
 | k + 1, j, hj => by
  unfold waitsB; cases ho : ops[j]? with
  | none => rfl
  | some o =>
   dsimp only
   rw [Array.any_eq_false]; intro q hq; cases hb : Region.binds md o.after[q]
   ·simp
   ·have hl := hc j o hj ho _ (Array.getElem_mem hq) hb
    have hne : ((o.after[q]).on == i) = false := by
     rw [beq_eq_false_iff_ne]; rintro rfl; rw [hi] at hl; cases hl
    simp [hne, waits_none hc hi k _ hl]
theorem waits_ready {listed : Array Bool} (hc : Closed md ops listed) {i j : Nat} (hi : listed.getD i false = false) (hr : j ∈ Region.ready md ops listed) : ∀ k, waitsB md ops i k j = false := by
 obtain ⟨_, o, ho, hall⟩ := mem_ready.1 hr
 intro k
 cases k with
 | zero => rfl
 | succ k =>
  unfold waitsB; rw [ho]; dsimp only
  rw [Array.any_eq_false]; intro q hq; cases hb : Region.binds md o.after[q]
  ·simp
  ·have hl := hall _ (Array.getElem_mem hq) hb
   have hne : ((o.after[q]).on == i) = false := by
    rw [beq_eq_false_iff_ne]; rintro rfl; rw [hi] at hl; cases hl
   simp [hne, waits_none hc hi k _ hl]
theorem closed_next {listed : Array Bool} (hc : Closed md ops listed) {j : Nat} (hr : j ∈ Region.ready md ops listed) : Closed md ops (listed.setIfInBounds j true) := by
 obtain ⟨_, oj, hoj, hall⟩ := mem_ready.1 hr
 have up : ∀ m, listed.getD m false = true → (listed.setIfInBounds j true).getD m false = true := fun m hm => by
  rcases Nat.decEq j m with hjm | rfl
  ·rw [getD_set_ne false hjm]; exact hm
  ·rw [Array.getD_eq_getD_getElem?, Array.getElem?_setIfInBounds]
   rw [Array.getD_eq_getD_getElem?] at hm
   by_cases hs : j < listed.size
   ·simp [hs]
   ·rw [Array.getElem?_eq_none (by omega)] at hm; simp at hm
 intro m o hm ho e he hb
 rcases Nat.decEq j m with hjm | rfl
 ·rw [getD_set_ne false hjm] at hm
  exact up _ (hc m o hm ho e he hb)
 ·rw [hoj] at ho
  cases ho
  exact up _ (hall e he hb)
/-- Does c say so of all who have not come up and don't wait for number i? -/
def coverB (md : Region.Mode) (ops : Array Oper) (c : Nat → Bool) (listed : Array Bool) (i : Nat) : Bool :=
 closedB md ops listed && (List.range ops.size).all fun j => j == i || c j || listed.getD j true || waitsB md ops i ops.size j
theorem coverB_spec {i j : Nat} {oj : Oper} {listed : Array Bool} (h : coverB md ops c listed i = true) (hj : ops[j]? = some oj) (hne : j ≠ i) (hl : listed.getD j true = false) (hd : ∀ k, waitsB md ops i k j = false) : c j = true := by
 unfold coverB at h
 rw [Bool.and_eq_true] at h
 have h1 := (List.all_eq_true.1 h.2) j (List.mem_range.2 (Array.getElem?_eq_some_iff.1 hj).1)
 simp only [Bool.or_eq_true, beq_iff_eq, hd, Bool.false_eq_true, or_false, hl] at h1
 rcases h1 with h1 | h1
 ·exact absurd h1 hne
 ·exact h1
theorem coverB_closed {i : Nat} {listed : Array Bool} (h : coverB md ops c listed i = true) : Closed md ops listed := by
 unfold coverB at h
 rw [Bool.and_eq_true] at h
 exact closed_of h.1
theorem unlisted {listed : Array Bool} {i : Nat} (hr : i ∈ Region.ready md ops listed) : listed.getD i false = false := by
 have h := (mem_ready.1 hr).1
 rw [Array.getD_eq_getD_getElem?] at h ⊢
 cases hx : listed[i]? with
 | none => rw [hx] at h; simp at h
 | some b => rw [hx] at h; simpa using h
theorem heldC.first {i : Nat} {oi : Oper} {v : Value} (hi : ops[i]? = some oi) (hsel : ∀ (j : Nat) (o : Oper) cs b, ops[j]? = some o → o.op ≠ .select cs b) (hQ : ∀ c a w, Q (.panic c) (a.put oi.dst v) w → Q (.panic c) a w) :
  ∀ (k : Nat) (listed : Array Bool) (a : Act) (w : World),
   (∀ j oj, ops[j]? = some oj → j ≠ i → listed.getD j true = false → (∀ e ∈ oj.after, Region.binds md e = true → e.on ≠ i) → oi.apart ops oj = true) →
   ((∀ W, T W) ∨ Closed md ops listed ∧ ∀ (j : Nat) (oj : Oper), ops[j]? = some oj → j ≠ i → listed.getD j true = false → (∀ k, waitsB md ops i k j = false) → ∀ W, (c j = true → S W) → T W) →
   i ∈ Region.ready md ops listed → YieldsIf P ops T oi v a → T w → (∀ W, T W → c i = true → S W) → heldC P md ops Q S c k (listed.setIfInBounds i true) (a.put oi.dst v) w → heldC P md ops Q S c (k + 1) listed a w
 | 0, listed, a, w, _, _, hr, hy, hT, hS, H => by
  refine ⟨fun h => absurd (h ▸ hr) (by simp), fun j hj => ?_⟩
  rcases Nat.decEq j i with hne | rfl
  ·have := ready_mono hj hne
   rw [H.1] at this
   cases this
  ·exact hy.wpOp hi hT ⟨hS w hT, H⟩
 | k + 1, listed, a, w, hfree, hk, hr, hy, hT, hS, H => by
  refine ⟨fun h => absurd (h ▸ hr) (by simp), fun j hj => ?_⟩
  rcases Nat.decEq j i with hne | rfl
  ·obtain ⟨hun, oj, hoj, hall⟩ := mem_ready.1 hj
   have hdep : ∀ e ∈ oj.after, Region.binds md e = true → e.on ≠ i := fun e he hb heq => by
    have g1 := hall e he hb; have g0 := (mem_ready.1 hr).1; rw [heq] at g1
    rcases Nat.lt_or_ge i listed.size with hl | hl
    ·simp [hl] at g0 g1; rw [g0] at g1; cases g1
    ·simp [Array.getElem?_eq_none hl] at g1
   have h2 := wpOp_putIf hoj (hfree j oj hoj hne hun hdep) (fun cs b => hsel i oi cs b hi) (fun cs b => hsel j oj cs b hoj) hQ hy (H.2 j (ready_mono hj hne))
   have hback : ∀ m, (listed.setIfInBounds j true).getD m true = false → listed.getD m true = false := fun m hmun => by
    rcases Nat.decEq j m with hjm | rfl
    ·rw [getD_set_ne true hjm] at hmun; exact hmun
    ·exact hun
   refine wpOp_mono (fun b W ⟨g1, g2, g3⟩ => ⟨g2, heldC.first hi hsel hQ k _ b W (fun m om hm hmi hmun hmd => hfree m om hm hmi (hback m hmun) hmd) (hk.imp id fun h => ⟨closed_next h.1 hj, fun m om hm hmi hmun hmd => h.2 m om hm hmi (hback m hmun) hmd⟩) (ready_mono hr (Ne.symm hne)) g1 (hk.elim (fun h => h W) fun h => h.2 j oj hoj hne hun (waits_ready h.1 (unlisted hr) hj) W g2) hS (by rw [Array.setIfInBounds_comm _ _ hne]; exact g3)⟩) h2
  ·exact hy.wpOp hi hT ⟨hS w hT, H⟩
theorem region_heldC {id : Nat} {a : Act} {w : World} (S : World → Prop) (c : Nat → Bool) (hm : P.follows .mixedOrders = true) (h : heldC P .any ops Q S c ops.size (Array.replicate ops.size false) a w.drew) : (Code.region id ops true).wp P Q a w :=
 wp_region_any hm (heldC.any _ _ _ _ h)
theorem regionC_start {id : Nat} {a : Act} {w : World} (k : Nat) (S : World → Prop) (c : Nat → Bool) (hm : P.follows .mixedOrders = true) (hk : ops.size = k) (h : heldC P .any ops Q S c k (Array.replicate k false) a w.drew) : (Code.region id ops true).wp P Q a w :=
 region_heldC S c hm (by rw [hk]; exact h)
theorem doneC {listed : Array Bool} {a : Act} {w : World} (hr : Region.ready md ops listed = []) (h : Q .normal a w) : ∀ k, heldC P md ops Q S c k listed a w
 | 0 => ⟨hr, h⟩
 | _ + 1 => ⟨fun _ => h, by rw [hr]; simp⟩
/-- Number i yields v in every world that meets S: it is taken. -/
theorem loadC (i d : Nat) {oi : Oper} {v : Value} {k : Nat} {listed : Array Bool} {l : List Value} {df : List Deferred} {w : World} (hi : ops[i]? = some oi) (hd : oi.dst = some d)
  (hs : Region.noSelect ops = true) (hf : Region.free md ops listed i = true) (hr : (Region.ready md ops listed).contains i = true) (hc : coverB md ops c listed i = true)
  (hQ : ∀ c a w, Q (.panic c) (a.put oi.dst v) w → Q (.panic c) a w) (hw : Region.wanted oi (yielded ops l.toArray) = true) (hy : ∀ w, S w → (execOp (Act.eval ⟨l.toArray, df⟩) oi).run P w = .ok (.value v) w) (hS : S w)
  (h : heldC P md ops Q S c k (listed.setIfInBounds i true) ⟨(l.set d v).toArray, df⟩ w) : heldC P md ops Q S c (k + 1) listed ⟨l.toArray, df⟩ w := by
 refine heldC.first (T := S) hi (Region.noSelect_spec hs) hQ k listed _ w (Region.free_spec hi hf) (.inr ⟨coverB_closed hc, fun j oj hj hne hl hdep W hW => hW (coverB_spec hc hj hne hl hdep)⟩) (by simpa using hr) (Or.inl ⟨hw, hy⟩) hS (fun _ h _ => h) ?_
 rw [hd]
 simpa [Act.put] using h
/-- Number i yields v in every world, and c does not speak of it. -/
theorem takeC (i d : Nat) {oi : Oper} {v : Value} {k : Nat} {listed : Array Bool} {l : List Value} {df : List Deferred} {w : World} (hi : ops[i]? = some oi) (hd : oi.dst = some d)
  (hs : Region.noSelect ops = true) (hf : Region.free md ops listed i = true) (hr : (Region.ready md ops listed).contains i = true) (hc : c i = false)
  (hQ : ∀ c a w, Q (.panic c) (a.put oi.dst v) w → Q (.panic c) a w) (hw : Region.wanted oi (yielded ops l.toArray) = true) (hy : ∀ w, (execOp (Act.eval ⟨l.toArray, df⟩) oi).run P w = .ok (.value v) w)
  (h : heldC P md ops Q S c k (listed.setIfInBounds i true) ⟨(l.set d v).toArray, df⟩ w) : heldC P md ops Q S c (k + 1) listed ⟨l.toArray, df⟩ w := by
 refine heldC.first (T := fun _ => True) hi (Region.noSelect_spec hs) hQ k listed _ w (Region.free_spec hi hf) (.inl fun _ => trivial) (by simpa using hr) (Or.inl ⟨hw, fun w _ => hy w⟩) trivial (fun _ _ h => by rw [hc] at h; cases h) ?_
 rw [hd]
 simpa [Act.put] using h
/-- Those that may come up next. -/
theorem readyC {rs : List Nat} {k : Nat} {listed : Array Bool} {a : Act} {w : World} (hr : Region.ready md ops listed = rs) (hne : rs ≠ [])
  (h : ∀ i ∈ rs, wpOp P ops Q i (fun b W => (c i = true → S W) ∧ heldC P md ops Q S c k (listed.setIfInBounds i true) b W) a w) : heldC P md ops Q S c (k + 1) listed a w :=
 ⟨fun h0 => absurd (hr ▸ h0) hne, hr ▸ h⟩
/-- Number i comes up, and runs. -/
theorem runC {i : Nat} {oi : Oper} {k : Nat} {listed : Array Bool} {a : Act} {w : World} (hi : ops[i]? = some oi) (hw : Region.wanted oi (yielded ops a.tmps) = true)
  (h : ∀ K' : Act → World → Prop, Shut (∀ a w, (c i = true → S w) → heldC P md ops Q S c k (listed.setIfInBounds i true) a w → K' a w) → Oper.wp P oi a w K' Q) : wpOp P ops Q i (fun b W => (c i = true → S W) ∧ heldC P md ops Q S c k (listed.setIfInBounds i true) b W) a w := by
 refine wpOp_step hi fun K' hK => ?_
 rw [if_pos hw]
 exact h K' fun a w hS hA => hK a w ⟨hS, hA⟩
theorem each_nil {p : Nat → Prop} : ∀ i ∈ ([] : List Nat), p i := fun _ h => by cases h
theorem each_cons {p : Nat → Prop} {i : Nat} {l : List Nat} (h : p i) (t : ∀ j ∈ l, p j) : ∀ j ∈ i :: l, p j := fun j hj => by
 rcases List.mem_cons.1 hj with rfl | hj
 ·exact h
 ·exact t j hj
end
end Go.Proofs.YtddnnjblpgfjeaaGreatDoor
