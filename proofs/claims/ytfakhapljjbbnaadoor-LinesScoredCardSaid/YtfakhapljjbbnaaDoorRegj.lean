/- As Regi, in a round of a range over a function too (a fence with a round): no operation of the region may be a defer statement. -/
import Derived.OwnWalkIn
import Derived.Test.YtfakhapljjbbnaaDoorRegi
namespace Go.Proofs.YtfakhapljjbbnaaDoor
open Go
/-- Is an operation no defer statement? -/
def plainOp (o : Oper) : Bool := match o.op with | .defer _ => false | _ => true
theorem plainOp_spec {o : Oper} (h : plainOp o = true) : ∀ c, o.op ≠ .defer c := by
  intro c e
  unfold plainOp at h
  rw [e] at h
  cases h
/-- Has a region no defer statement? -/
def plainOps (ops : Array Oper) : Bool := ops.all plainOp
theorem plainOps_spec {ops : Array Oper} (h : plainOps ops = true) {i : Nat} {o : Oper} (hi : ops[i]? = some o) : ∀ c, o.op ≠ .defer c := by
  obtain ⟨hlt, rfl⟩ := Array.getElem?_eq_some_iff.1 hi
  exact plainOp_spec (Array.all_eq_true.1 h i hlt)
section
variable {F : Fence} {n : Nat} {P : Program} {ops : Array Oper} {Q : Exit → Act → World → Prop} {md : Region.Mode} {S T : World → Prop} {c : Nat → Bool}
theorem GivesIn.wpOpR {i : Nat} {o : Oper} {v : Value} {a : Act} (hro : plainOps ops = true) (hi : ops[i]? = some o) (hy : GivesIn P ops S o v a) {K : Act → World → Prop} {w : World} (hS : S w) (h : K (a.put o.dst v) w) : wpOpIn F n P ops Q i K a w := by
  unfold wpOpIn
  simp only [hi]
  have hab : ∀ f, o.about P w a.eval = some f → F.fn f := fun f hf => by rw [hy.2 w] at hf; cases hf
  obtain ⟨hw, hv⟩ | ⟨hw, rfl⟩ := hy.1
  · simp only [hw, if_true, Oper.wpIn, Oper.semAt_plain F _ _ (plainOps_spec hro hi), hv w hS, Oper.uponIn]
    exact ⟨hab, h⟩
  · simp only [hw, Bool.false_eq_true, if_false]
    exact ⟨hab, h⟩

theorem GivesIn.pastR {j : Nat} {oi oj : Oper} {v : Value} {a : Act} {w : World} {K : Act → World → Prop} (hro : plainOps ops = true) (hj : ops[j]? = some oj) (hap : oi.apart ops oj = true) (hsi : ∀ cs b, oi.op ≠ .select cs b) (hsj : ∀ cs b, oj.op ≠ .select cs b)
    (hQ : ∀ c a w, Q (.panic c) (a.put oi.dst v) w → Q (.panic c) a w) (hy : GivesIn P ops S oi v a) (h : wpOpIn F n P ops Q j K (a.put oi.dst v) w) :
    wpOpIn F n P ops Q j (fun b W => GivesIn P ops S oi v b ∧ K (b.put oi.dst v) W) a w := by
  obtain ⟨q1, q2, q3⟩ := Oper.apart_spec hap
  have stay : ∀ (b : Act), GivesIn P ops S oi v b → ∀ u, GivesIn P ops S oi v (b.put oj.dst u) := fun b hb u =>
    hb.same (execOp_put oi hsi b oj.dst u q3) (wanted_put oi b oj.dst u q3) fun w => about_put oi w b oj.dst u q3
  have swap : ∀ (b : Act) u, (b.put oi.dst v).put oj.dst u = (b.put oj.dst u).put oi.dst v := fun b u => (Act.put_comm b v u q2)
  unfold wpOpIn at h ⊢
  simp only [hj, wanted_put oj a oi.dst v q1, about_put oj w a oi.dst v q1] at h ⊢
  by_cases hw : Region.wanted oj (yielded ops a.tmps) = true
  · rw [if_pos hw] at h ⊢
    unfold Oper.wpIn at h ⊢
    rw [about_put oj w a oi.dst v q1] at h
    obtain ⟨h0, h⟩ := h
    rw [Oper.semAt_plain F _ _ (plainOps_spec hro hj), execOp_put oj hsj a oi.dst v q1] at h
    rw [Oper.semAt_plain F _ _ (plainOps_spec hro hj)]
    refine ⟨h0, ?_⟩
    cases hr : (execOp a.eval oj).run P w with
    | halt x W =>
      rw [hr] at h
      cases x <;> simp only [Oper.uponIn] at h ⊢
      exact hQ _ _ _ h
    | ok x W =>
      rw [hr] at h
      cases x with
      | value u => exact ⟨stay a hy u, by rw [← swap]; exact h⟩
      | skip => exact ⟨stay a hy _, by rw [← swap]; exact h⟩
      | defer d => exact ⟨stay { a with defers := d :: a.defers } (hy.same rfl rfl fun _ => rfl) undef, by rw [← swap, ← Act.put_defers]; exact h⟩
      | enter f args => exact ⟨h.1, h.2.mono fun e W' he => by
          cases e with
          | returned u => exact ⟨stay a hy u, by rw [← swap]; exact he⟩
          | panicked c => exact hQ _ _ _ he
          | outgrown => exact he⟩
      | row r args => exact ⟨h.1, h.2.mono fun u W' he => ⟨stay a hy u, by rw [← swap]; exact he⟩⟩
      | round l f tmps assign body => exact ⟨h.1, h.2.mono fun e W' he => by
          cases e with
          | returned u => exact ⟨stay a hy u, by rw [← swap]; exact he⟩
          | panicked c => exact hQ _ _ _ he
          | outgrown => exact he⟩
      | _ => simp only [Oper.uponIn] at h
  · rw [if_neg hw] at h ⊢
    exact ⟨h.1, stay a hy _, by rw [← swap]; exact h.2⟩
theorem heldCIn.firstR {i : Nat} {oi : Oper} {v : Value} (hro : plainOps ops = true) (hi : ops[i]? = some oi) (hsel : ∀ (j : Nat) (o : Oper) cs b, ops[j]? = some o → o.op ≠ .select cs b) (hQ : ∀ c a w, Q (.panic c) (a.put oi.dst v) w → Q (.panic c) a w) :
    ∀ (k : Nat) (listed : Array Bool) (a : Act) (w : World),
      (∀ j oj, ops[j]? = some oj → j ≠ i → listed.getD j true = false → (∀ e ∈ oj.after, Region.binds md e = true → e.on ≠ i) → oi.apart ops oj = true) →
      ((∀ W, T W) ∨ Closed md ops listed ∧ ∀ (j : Nat) (oj : Oper), ops[j]? = some oj → j ≠ i → listed.getD j true = false → (∀ k, waitsB md ops i k j = false) → ∀ W, (c j = true → S W) → T W) →
      i ∈ Region.ready md ops listed → GivesIn P ops T oi v a → T w → (∀ W, T W → c i = true → S W) → heldCIn F n P md ops Q S c k (listed.setIfInBounds i true) (a.put oi.dst v) w → heldCIn F n P md ops Q S c (k + 1) listed a w
  | 0, listed, a, w, _, _, hr, hy, hT, hS, H => by
    refine ⟨fun h => absurd (h ▸ hr) (by simp), fun j hj => ?_⟩
    rcases Nat.decEq j i with hne | rfl
    · have := ready_mono hj hne
      rw [H.1] at this
      cases this
    · exact hy.wpOpR hro hi hT ⟨hS w hT, H⟩
  | k + 1, listed, a, w, hfree, hk, hr, hy, hT, hS, H => by
    refine ⟨fun h => absurd (h ▸ hr) (by simp), fun j hj => ?_⟩
    rcases Nat.decEq j i with hne | rfl
    · obtain ⟨hun, oj, hoj, hall⟩ := mem_ready.1 hj
      have hdep : ∀ e ∈ oj.after, Region.binds md e = true → e.on ≠ i := fun e he hb heq => by
        have g1 := hall e he hb
        have g0 := (mem_ready.1 hr).1
        rw [heq] at g1
        rcases Nat.lt_or_ge i listed.size with hl | hl
        · simp [hl] at g0 g1; rw [g0] at g1; cases g1
        · simp [Array.getElem?_eq_none hl] at g1
      have h2 := GivesIn.pastR hro hoj (hfree j oj hoj hne hun hdep) (fun cs b => hsel i oi cs b hi) (fun cs b => hsel j oj cs b hoj) hQ hy (H.2 j (ready_mono hj hne))
      have hback : ∀ m, (listed.setIfInBounds j true).getD m true = false → listed.getD m true = false := fun m hmun => by
        rcases Nat.decEq j m with hjm | rfl
        · rw [getD_set_ne true hjm] at hmun; exact hmun
        · exact hun
      refine wpOpIn_mono (fun b W ⟨g1, g2, g3⟩ => ⟨g2, heldCIn.firstR hro hi hsel hQ k _ b W (fun m om hm hmi hmun hmd => hfree m om hm hmi (hback m hmun) hmd) (hk.imp id fun h => ⟨closed_next h.1 hj, fun m om hm hmi hmun hmd => h.2 m om hm hmi (hback m hmun) hmd⟩) (ready_mono hr (Ne.symm hne)) g1 (hk.elim (fun h => h W) fun h => h.2 j oj hoj hne hun (waits_ready h.1 (unlisted hr) hj) W g2) hS (by rw [Array.setIfInBounds_comm _ _ hne]; exact g3)⟩) h2
    · exact hy.wpOpR hro hi hT ⟨hS w hT, H⟩

theorem loadInR (i d : Nat) {oi : Oper} {v : Value} {k : Nat} {listed : Array Bool} {l : List Value} {df : List Deferred} {w : World} (hi : ops[i]? = some oi) (hd : oi.dst = some d)
    (hs : Region.noSelect ops = true) (hf : Region.free md ops listed i = true) (hr : (Region.ready md ops listed).contains i = true) (hc : coverB md ops c listed i = true) (hro : plainOps ops = true) (hab : ∀ w, oi.about P w (Act.eval ⟨l.toArray, df⟩) = none)
    (hQ : ∀ c a w, Q (.panic c) (a.put oi.dst v) w → Q (.panic c) a w) (hw : Region.wanted oi (yielded ops l.toArray) = true) (hy : ∀ w, S w → (execOp (Act.eval ⟨l.toArray, df⟩) oi).run P w = .ok (.value v) w) (hS : S w)
    (h : heldCIn F n P md ops Q S c k (listed.setIfInBounds i true) ⟨(l.set d v).toArray, df⟩ w) : heldCIn F n P md ops Q S c (k + 1) listed ⟨l.toArray, df⟩ w := by
  refine heldCIn.firstR (T := S) hro hi (Region.noSelect_spec hs) hQ k listed _ w (Region.free_spec hi hf) (.inr ⟨coverB_closed hc, fun j oj hj hne hl hdep W hW => hW (coverB_spec hc hj hne hl hdep)⟩) (by simpa using hr) ⟨Or.inl ⟨hw, hy⟩, hab⟩ hS (fun _ h _ => h) ?_
  rw [hd]
  simpa [Act.put] using h

theorem takeInR (i d : Nat) {oi : Oper} {v : Value} {k : Nat} {listed : Array Bool} {l : List Value} {df : List Deferred} {w : World} (hi : ops[i]? = some oi) (hd : oi.dst = some d)
    (hs : Region.noSelect ops = true) (hf : Region.free md ops listed i = true) (hr : (Region.ready md ops listed).contains i = true) (hc : c i = false) (hro : plainOps ops = true) (hab : ∀ w, oi.about P w (Act.eval ⟨l.toArray, df⟩) = none)
    (hQ : ∀ c a w, Q (.panic c) (a.put oi.dst v) w → Q (.panic c) a w) (hw : Region.wanted oi (yielded ops l.toArray) = true) (hy : ∀ w, (execOp (Act.eval ⟨l.toArray, df⟩) oi).run P w = .ok (.value v) w)
    (h : heldCIn F n P md ops Q S c k (listed.setIfInBounds i true) ⟨(l.set d v).toArray, df⟩ w) : heldCIn F n P md ops Q S c (k + 1) listed ⟨l.toArray, df⟩ w := by
  refine heldCIn.firstR (T := fun _ => True) hro hi (Region.noSelect_spec hs) hQ k listed _ w (Region.free_spec hi hf) (.inl fun _ => trivial) (by simpa using hr) ⟨Or.inl ⟨hw, fun w _ => hy w⟩, hab⟩ trivial (fun _ _ h => by rw [hc] at h; cases h) ?_
  rw [hd]
  simpa [Act.put] using h
end
end Go.Proofs.YtfakhapljjbbnaaDoor
