/- A drawn region inside a fence, walked in the order of its text: a condition on the world is kept up, and what yields its value in every world that meets it is taken first. -/
import Derived.WalkKit
import Derived.OrdersHeld
import Derived.OrdersIn
import Derived.Deep.RegionHeld3
import Derived.Test.YtfcaokpadodijaaGreatMgac
namespace Go.Proofs.YtfcaokpadodijaaGreat
open Go
section
variable {F : Fence} {n : Nat} {P : Program} {ops : Array Oper} {Q : Exit → Act → World → Prop} {md : Region.Mode} {S T : World → Prop} {c : Nat → Bool}
/-- In every world that meets S the operation leaves v and does nothing else, and it calls nobody. -/
def GivesIn (P : Program) (ops : Array Oper) (S : World → Prop) (o : Oper) (v : Value) (a : Act) : Prop := YieldsIf P ops S o v a ∧ ∀ w, o.about P w a.eval = none
theorem GivesIn.wpOp {i : Nat} {o : Oper} {v : Value} {a : Act} (hro : F.round = none) (hi : ops[i]? = some o) (hy : GivesIn P ops S o v a) {K : Act → World → Prop} {w : World} (hS : S w) (h : K (a.put o.dst v) w) : wpOpIn F n P ops Q i K a w := by
 unfold wpOpIn
 simp only [hi]
 have hab : ∀ f, o.about P w a.eval = some f → F.fn f := fun f hf => by rw [hy.2 w] at hf; cases hf
 obtain ⟨hw, hv⟩ | ⟨hw, rfl⟩ := hy.1
 ·simp only [hw, if_true, Oper.wpIn, hro, Oper.semAt_none, hv w hS, Oper.uponIn]
  exact ⟨hab, h⟩
 ·simp only [hw, Bool.false_eq_true, if_false]
  exact ⟨hab, h⟩
theorem GivesIn.same {o : Oper} {v : Value} {a b : Act} (hy : GivesIn P ops S o v a) (he : execOp b.eval o = execOp a.eval o) (hw : Region.wanted o (yielded ops b.tmps) = Region.wanted o (yielded ops a.tmps)) (hb : ∀ w, o.about P w b.eval = o.about P w a.eval) : GivesIn P ops S o v b :=
 ⟨hy.1.of_same he hw, fun w => (hb w).trans (hy.2 w)⟩
/-- An operation apart from it does not mind whether it has come up. -/
theorem GivesIn.past {j : Nat} {oi oj : Oper} {v : Value} {a : Act} {w : World} {K : Act → World → Prop} (hro : F.round = none) (hj : ops[j]? = some oj) (hap : oi.apart ops oj = true) (hsi : ∀ cs b, oi.op ≠ .select cs b) (hsj : ∀ cs b, oj.op ≠ .select cs b)
  (hQ : ∀ c a w, Q (.panic c) (a.put oi.dst v) w → Q (.panic c) a w) (hy : GivesIn P ops S oi v a) (h : wpOpIn F n P ops Q j K (a.put oi.dst v) w) :
  wpOpIn F n P ops Q j (fun b W => GivesIn P ops S oi v b ∧ K (b.put oi.dst v) W) a w := by
 obtain ⟨q1, q2, q3⟩ := Oper.apart_spec hap
 have stay : ∀ (b : Act), GivesIn P ops S oi v b → ∀ u, GivesIn P ops S oi v (b.put oj.dst u) := fun b hb u =>
  hb.same (execOp_put oi hsi b oj.dst u q3) (wanted_put oi b oj.dst u q3) fun w => about_put oi w b oj.dst u q3
 have swap : ∀ (b : Act) u, (b.put oi.dst v).put oj.dst u = (b.put oj.dst u).put oi.dst v := fun b u => (Act.put_comm b v u q2)
 unfold wpOpIn at h ⊢
 simp only [hj, wanted_put oj a oi.dst v q1, about_put oj w a oi.dst v q1] at h ⊢
 by_cases hw : Region.wanted oj (yielded ops a.tmps) = true
 ·rw [if_pos hw] at h ⊢
  unfold Oper.wpIn at h ⊢
  rw [about_put oj w a oi.dst v q1] at h
  obtain ⟨h0, h⟩ := h; rw [hro, Oper.semAt_none, execOp_put oj hsj a oi.dst v q1] at h
  rw [hro, Oper.semAt_none]; refine ⟨h0, ?_⟩; cases hr : (execOp a.eval oj).run P w with
  | halt x W =>
   rw [hr] at h
   cases x <;> simp only [Oper.uponIn] at h ⊢
   exact hQ _ _ _ h
  | ok x W =>
   rw [hr] at h
   cases x with
   | value u => exact ⟨stay a hy u, by rw [← swap]; exact h⟩
   | skip => exact ⟨stay a hy _, by rw [← swap]; exact h⟩
   | defer d => exact ⟨stay { a with defers := d :: a.defers } (hy.same rfl rfl fun _ => rfl) undef, by rw [← swap, ← Act.put_defers]; exact h⟩
   | enter f args => exact ⟨h.1, h.2.mono fun e W' he => by
     cases e with
     | returned u => exact ⟨stay a hy u, by rw [← swap]; exact he⟩
     | panicked c => exact hQ _ _ _ he
     | outgrown => exact he⟩
   | row r args => exact ⟨h.1, h.2.mono fun u W' he => ⟨stay a hy u, by rw [← swap]; exact he⟩⟩
   | round l f tmps assign body => exact ⟨h.1, h.2.mono fun e W' he => by
     cases e with
     | returned u => exact ⟨stay a hy u, by rw [← swap]; exact he⟩
     | panicked c => exact hQ _ _ _ he
     | outgrown => exact he⟩
   | _ => simp only [Oper.uponIn] at h
 ·rw [if_neg hw] at h ⊢
  exact ⟨h.1, stay a hy _, by rw [← swap]; exact h.2⟩
/-- Whatever comes up next; behind number i, if c says so of it, S holds. -/
def heldCIn (F : Fence) (n : Nat) (P : Program) (md : Region.Mode) (ops : Array Oper) (Q : Exit → Act → World → Prop) (S : World → Prop) (c : Nat → Bool) : Nat → Array Bool → Act → World → Prop
 | 0, listed, a, w => Region.ready md ops listed = [] ∧ Q .normal a w
 | k + 1, listed, a, w => (Region.ready md ops listed = [] → Q .normal a w) ∧ ∀ i ∈ Region.ready md ops listed, wpOpIn F n P ops Q i (fun b W => (c i = true → S W) ∧ heldCIn F n P md ops Q S c k (listed.setIfInBounds i true) b W) a w
theorem heldCIn.any : ∀ (k : Nat) (listed : Array Bool) (a : Act) (w : World), heldCIn F n P md ops Q S c k listed a w → wpAnyIn F n P md ops Q k listed a w
 | 0, _, _, _, h => h
 | k + 1, _, _, _, h => ⟨h.1, fun i hi => wpOpIn_mono (fun b W hb => heldCIn.any k _ b W hb.2) (h.2 i hi)⟩
theorem heldCIn.first {i : Nat} {oi : Oper} {v : Value} (hro : F.round = none) (hi : ops[i]? = some oi) (hsel : ∀ (j : Nat) (o : Oper) cs b, ops[j]? = some o → o.op ≠ .select cs b) (hQ : ∀ c a w, Q (.panic c) (a.put oi.dst v) w → Q (.panic c) a w) :
  ∀ (k : Nat) (listed : Array Bool) (a : Act) (w : World),
   (∀ j oj, ops[j]? = some oj → j ≠ i → listed.getD j true = false → (∀ e ∈ oj.after, Region.binds md e = true → e.on ≠ i) → oi.apart ops oj = true) →
   ((∀ W, T W) ∨ Closed md ops listed ∧ ∀ (j : Nat) (oj : Oper), ops[j]? = some oj → j ≠ i → listed.getD j true = false → (∀ k, waitsB md ops i k j = false) → ∀ W, (c j = true → S W) → T W) →
   i ∈ Region.ready md ops listed → GivesIn P ops T oi v a → T w → (∀ W, T W → c i = true → S W) → heldCIn F n P md ops Q S c k (listed.setIfInBounds i true) (a.put oi.dst v) w → heldCIn F n P md ops Q S c (k + 1) listed a w
 | 0, listed, a, w, _, _, hr, hy, hT, hS, H => by
  refine ⟨fun h => absurd (h ▸ hr) (by simp), fun j hj => ?_⟩
  rcases Nat.decEq j i with hne | rfl
  ·have := ready_mono hj hne
   rw [H.1] at this
   cases this
  ·exact hy.wpOp hro hi hT ⟨hS w hT, H⟩
 | k + 1, listed, a, w, hfree, hk, hr, hy, hT, hS, H => by
  refine ⟨fun h => absurd (h ▸ hr) (by simp), fun j hj => ?_⟩
  rcases Nat.decEq j i with hne | rfl
  ·obtain ⟨hun, oj, hoj, hall⟩ := mem_ready.1 hj
   have hdep : ∀ e ∈ oj.after, Region.binds md e = true → e.on ≠ i := fun e he hb heq => by
    have g1 := hall e he hb; have g0 := (mem_ready.1 hr).1; rw [heq] at g1
    rcases Nat.lt_or_ge i listed.size with hl | hl
    ·simp [hl] at g0 g1; rw [g0] at g1; cases g1
    ·simp [Array.getElem?_eq_none hl] at g1
   have h2 := GivesIn.past hro hoj (hfree j oj hoj hne hun hdep) (fun cs b => hsel i oi cs b hi) (fun cs b => hsel j oj cs b hoj) hQ hy (H.2 j (ready_mono hj hne))
   have hback : ∀ m, (listed.setIfInBounds j true).getD m true = false → listed.getD m true = false := fun m hmun => by
    rcases Nat.decEq j m with hjm | rfl
    ·rw [getD_set_ne true hjm] at hmun; exact hmun
    ·exact hun
   refine wpOpIn_mono (fun b W ⟨g1, g2, g3⟩ => ⟨g2, heldCIn.first hro hi hsel hQ k _ b W (fun m om hm hmi hmun hmd => hfree m om hm hmi (hback m hmun) hmd) (hk.imp id fun h => ⟨closed_next h.1 hj, fun m om hm hmi hmun hmd => h.2 m om hm hmi (hback m hmun) hmd⟩) (ready_mono hr (Ne.symm hne)) g1 (hk.elim (fun h => h W) fun h => h.2 j oj hoj hne hun (waits_ready h.1 (unlisted hr) hj) W g2) hS (by rw [Array.setIfInBounds_comm _ _ hne]; exact g3)⟩) h2
  ·exact hy.wpOp hro hi hT ⟨hS w hT, H⟩
theorem regionIn_start {id : Nat} {a : Act} {w : World} (k : Nat) (S : World → Prop) (c : Nat → Bool) (hm : P.follows .mixedOrders = true) (hk : ops.size = k) (h : heldCIn F n P .any ops Q S c k (Array.replicate k false) a w.drew) : (Code.region id ops true).wpIn F n P Q a w :=
 wpIn_region_any hm (heldCIn.any _ _ _ _ (by rw [hk]; exact h))
theorem doneIn {listed : Array Bool} {a : Act} {w : World} (hr : Region.ready md ops listed = []) (h : Q .normal a w) : ∀ k, heldCIn F n P md ops Q S c k listed a w
 | 0 => ⟨hr, h⟩
 | _ + 1 => ⟨fun _ => h, by rw [hr]; simp⟩
/-- Number i yields v in every world that meets S: it is taken. -/
theorem loadIn (i d : Nat) {oi : Oper} {v : Value} {k : Nat} {listed : Array Bool} {l : List Value} {df : List Deferred} {w : World} (hi : ops[i]? = some oi) (hd : oi.dst = some d)
  (hs : Region.noSelect ops = true) (hf : Region.free md ops listed i = true) (hr : (Region.ready md ops listed).contains i = true) (hc : coverB md ops c listed i = true) (hro : F.round = none) (hab : ∀ w, oi.about P w (Act.eval ⟨l.toArray, df⟩) = none)
  (hQ : ∀ c a w, Q (.panic c) (a.put oi.dst v) w → Q (.panic c) a w) (hw : Region.wanted oi (yielded ops l.toArray) = true) (hy : ∀ w, S w → (execOp (Act.eval ⟨l.toArray, df⟩) oi).run P w = .ok (.value v) w) (hS : S w)
  (h : heldCIn F n P md ops Q S c k (listed.setIfInBounds i true) ⟨(l.set d v).toArray, df⟩ w) : heldCIn F n P md ops Q S c (k + 1) listed ⟨l.toArray, df⟩ w := by
 refine heldCIn.first (T := S) hro hi (Region.noSelect_spec hs) hQ k listed _ w (Region.free_spec hi hf) (.inr ⟨coverB_closed hc, fun j oj hj hne hl hdep W hW => hW (coverB_spec hc hj hne hl hdep)⟩) (by simpa using hr) ⟨Or.inl ⟨hw, hy⟩, hab⟩ hS (fun _ h _ => h) ?_
 rw [hd]
 simpa [Act.put] using h
/-- Number i yields v in every world, and c does not speak of it. -/
theorem takeIn (i d : Nat) {oi : Oper} {v : Value} {k : Nat} {listed : Array Bool} {l : List Value} {df : List Deferred} {w : World} (hi : ops[i]? = some oi) (hd : oi.dst = some d)
  (hs : Region.noSelect ops = true) (hf : Region.free md ops listed i = true) (hr : (Region.ready md ops listed).contains i = true) (hc : c i = false) (hro : F.round = none) (hab : ∀ w, oi.about P w (Act.eval ⟨l.toArray, df⟩) = none)
  (hQ : ∀ c a w, Q (.panic c) (a.put oi.dst v) w → Q (.panic c) a w) (hw : Region.wanted oi (yielded ops l.toArray) = true) (hy : ∀ w, (execOp (Act.eval ⟨l.toArray, df⟩) oi).run P w = .ok (.value v) w)
  (h : heldCIn F n P md ops Q S c k (listed.setIfInBounds i true) ⟨(l.set d v).toArray, df⟩ w) : heldCIn F n P md ops Q S c (k + 1) listed ⟨l.toArray, df⟩ w := by
 refine heldCIn.first (T := fun _ => True) hro hi (Region.noSelect_spec hs) hQ k listed _ w (Region.free_spec hi hf) (.inl fun _ => trivial) (by simpa using hr) ⟨Or.inl ⟨hw, fun w _ => hy w⟩, hab⟩ trivial (fun _ _ h => by rw [hc] at h; cases h) ?_
 rw [hd]
 simpa [Act.put] using h
/-- Number i alone may come up, and runs. -/
theorem runIn (i : Nat) {oi : Oper} {k : Nat} {listed : Array Bool} {a : Act} {w : World} (hi : ops[i]? = some oi) (hr : Region.ready md ops listed = [i]) (hw : Region.wanted oi (yielded ops a.tmps) = true)
  (h : ∀ K' : Act → World → Prop, Shut (∀ a w, (c i = true → S w) → heldCIn F n P md ops Q S c k (listed.setIfInBounds i true) a w → K' a w) → Oper.wpIn F n P oi a w K' Q) : heldCIn F n P md ops Q S c (k + 1) listed a w := by
 refine ⟨fun h0 => absurd (hr.symm.trans h0) (by simp), fun j hj => ?_⟩
 rw [hr] at hj
 obtain rfl := List.mem_singleton.1 hj
 refine wpOpIn_step hi fun K' hK => ?_
 rw [if_pos hw]
 exact h K' fun a w hS hA => hK a w ⟨hS, hA⟩
end
end Go.Proofs.YtfcaokpadodijaaGreat
