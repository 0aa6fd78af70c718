/- points: the sum of what the rules give. -/
import Derived.Test.YtmejjkicagkogaaGreatDoorSpd
namespace Go.Proofs.YtmejjkicagkogaaGreatDoor
open Go.RowKit

attribute [local go_sem] Oper.semAt_some
set_option maxRecDepth 100000 in
set_option maxHeartbeats 2000000 in
theorem gifts1_nil (n l b0 b1 b2 : Nat) (ts : List TD) (J : List (GR ts) → World → Prop) (W : World) (h0 : W.cell? ⟨b0, 0, none⟩ = some (.slice none 0 0)) (hj : J [] W) :
    CallsIn Fence.wide n Tryz.prog 112 #[.func (.yield l) #[] #[], .pointer (some ⟨b0, 0, none⟩), .pointer (some ⟨b1, 0, none⟩), .pointer (some ⟨b2, 0, none⟩)] W fun e W' => (∃ v, e = .returned v) ∧ J [] W' := by
  refine callsIn_of_wp Tryz.func112 rfl trivial ?_ rfl
  simp only [Tryz.ntmps112, List.size_toArray, List.length_cons, List.length_nil, Nat.reduceAdd, Nat.reduceSub, Array.replicate_succ, Array.replicate_zero, List.push_toArray, List.append_toArray, List.nil_append, List.cons_append]
  gi_wp2_with fail
  gi_loopw [9] (fun i wr => i = .int .i64 0 ∧ J [] wr) (fun _ _ => 0)
  case atStart => exact ⟨rfl, hj⟩
  case round =>
    obtain ⟨rfl, hJs⟩ := hrel
    gi_wp2_with fail
    go_end0
    exact ⟨⟨_, rfl⟩, hJs⟩

/-- The function value of gifts yields the rules that apply, one after the other. -/
theorem gifts_stops (n n₀ s b0 b1 b2 lo lo' lo3 : Nat) (rs : List RD) (v kv : Value) (ks : List ByteArray) (ln : LD) (sv : Value) (hn : 1 ≤ n) (hrn : rs.length ≤ 1000000) (hfit : ∀ r ∈ rs, FitR ln.stats r) (hsm : ∀ r ∈ rs, SmallR r)
    (w : World) (hn₀ : n₀ ≤ w.heap.size) (hbn : b0 < n₀ ∧ b1 < n₀ ∧ b2 < n₀) (hbs : b0 ≠ s ∧ b1 ≠ s ∧ b2 ≠ s) (hg : ∀ g off m c, v = .slice (some ⟨g, off, none⟩) m c → g < n₀ ∧ g ≠ s)
    (h0 : w.cell? ⟨b0, 0, none⟩ = some v) (h1 : w.cell? ⟨b1, 0, none⟩ = some kv) (h2 : w.cell? ⟨b2, 0, none⟩ = some (.string ln.player) ∧ w.cell? ⟨b2, 1, none⟩ = some (.int .i64 ln.week) ∧ w.cell? ⟨b2, 2, none⟩ = some sv)
    (hR : ∀ W', Kept n₀ s w W' → Rls W' lo v rs) (hK : ∀ W', Kept n₀ s w W' → Strs W' lo' kv ks) (hT : ∀ W', Kept n₀ s w W' → Tds W' lo3 sv ln.stats) :
    SeqStopsK Fence.wide n Tryz.prog 112 #[.pointer (some ⟨b0, 0, none⟩), .pointer (some ⟨b1, 0, none⟩), .pointer (some ⟨b2, 0, none⟩)] (encG ln.stats) (Kept n₀ s) (fun xs => xs.map (·.1) = rs.filter (appB ks)) (fun _ => True) rs.length w := by
  intro l J Jx W hW hJ _ hY hj0
  have hk0 : Kept n₀ s w W := Kept.of hW hn₀
  have c0 := (hk0.cell (o := 0) hbn.1 hbs.1).trans h0
  have c1 := (hk0.cell (o := 0) hbn.2.1 hbs.2.1).trans h1
  have c2 := And.intro ((hk0.cell (o := 0) hbn.2.2 hbs.2.2).trans h2.1) (And.intro ((hk0.cell (o := 1) hbn.2.2 hbs.2.2).trans h2.2.1) ((hk0.cell (o := 2) hbn.2.2 hbs.2.2).trans h2.2.2))
  have hJ' : ∀ pre W W', J pre W → Below W.heap.size W W' → J pre W' := fun pre A B h hb => hJ pre A B none h (gb_below hb none) fun r e => by cases e
  rcases rls_at (hR W hk0) with ⟨rfl, rfl⟩ | ⟨g, off, cap, rfl, _, _, _, _⟩
  · exact (gifts1_nil n l b0 b1 b2 ln.stats J W c0 hj0).mono fun e W' ⟨he, hj⟩ => ⟨he, .inl ⟨[], by simp, hj⟩⟩
  · obtain ⟨g1, g2⟩ := hg g off _ _ rfl
    refine (gifts1_in n l n₀ s b0 b1 b2 g off cap lo lo' lo3 rs kv ks ln sv hn hrn hfit hsm J Jx hY hJ' W (Nat.le_trans hn₀ hW.size) ⟨hbn.1, hbn.2.1, hbn.2.2, g1⟩ ⟨hbs.1, hbs.2.1, hbs.2.2, g2⟩ c0 c1 c2 (hR W hk0) (fun W' h => hK W' (hk0.trans h)) (fun W' h => hT W' (hk0.trans h)) hj0).mono ?_
    rintro e W' ⟨he, ⟨xs, hx, hj⟩ | ⟨pre, hj⟩⟩
    · exact ⟨he, .inl ⟨xs, hx, hj⟩⟩
    · exact ⟨he, .inr ⟨pre, trivial, hj⟩⟩

/-- The sum of some numbers. -/
def sumI : List Int → Int
  | [] => 0
  | x :: xs => x + sumI xs
theorem sumI_snoc (l : List Int) (x : Int) : sumI (l ++ [x]) = sumI l + x := by
  induction l with
  | nil => simp [sumI]
  | cons y ys ih => simp only [List.cons_append, sumI, ih]; omega
theorem sumI_bound {l : List Int} (h : ∀ x ∈ l, -100000000000 ≤ x ∧ x ≤ 100000000000) : -100000000000 * (l.length : Int) ≤ sumI l ∧ sumI l ≤ 100000000000 * (l.length : Int) := by
  induction l with
  | nil => simp [sumI]
  | cons y ys ih =>
    have h1 := h y (by simp)
    have h2 := ih fun x hx => h x (by simp [hx])
    simp only [sumI, List.length_cons]
    omega
/-- The points of a line, in hundredths. -/
def ptsI (rs : List RD) (ks : List ByteArray) (ts : List TD) : Int := sumI ((rs.filter (appB ks)).map (givenI ts))
theorem gr_sum {ts : List TD} (pre : List (GR ts)) : -100000000000 * (pre.length : Int) ≤ sumI (pre.map fun x => givenI ts x.1) ∧ sumI (pre.map fun x => givenI ts x.1) ≤ 100000000000 * (pre.length : Int) := by
  have := sumI_bound (l := pre.map fun x => givenI ts x.1) fun x hx => by
    obtain ⟨y, _, rfl⟩ := List.mem_map.1 hx
    exact y.2.giv
  simpa using this
set_option maxRecDepth 100000 in
set_option maxHeartbeats 4000000 in
theorem points_calls (lo lo' lo3 : Nat) (v kv x : Value) (rs : List RD) (ks : List ByteArray) (ln : LD) (w : World) (hR : Rls w lo v rs) (hsm : ∀ r ∈ rs, SmallR r) (hrn : rs.length ≤ 1000) (hfit : ∀ r ∈ rs, FitR ln.stats r) (hK : Strs w lo' kv ks) (hT : Tds w lo3 x ln.stats) :
    Calls Tryz.prog 75 #[v, kv, lnV ln x] w (IntBelow (ptsI rs ks ln.stats) w) := by
  obtain ⟨ra, rc, rfl⟩ := rls_shape hR
  obtain ⟨ka, kc, rfl⟩ := strs_shape hK
  obtain ⟨xa, xc, rfl⟩ := tds_shape hT
  refine (callsIn_wide (n := 3)).1 ?_
  obtain ⟨W2, hW2⟩ : ∃ W2, W2 = (w.alloc (.cells #[.string ln.player, .int .i64 ln.week, .slice xa ln.stats.length xc] 78)).alloc (.cells #[.int .i64 0] 3) := ⟨_, rfl⟩
  have hs2 : W2.heap.size = w.heap.size + 2 := by rw [hW2]; simp
  have hb2 : Below w.heap.size w W2 := by rw [hW2]; exact (below_alloc w _).trans ((below_alloc _ _).mono (by simp))
  have hsum2 : W2.heap[w.heap.size + 1]? = some (.cells #[.int .i64 0] 3 (0, 0)) := by
    rw [hW2]; have := heap_alloc_new (w.alloc (.cells #[.string ln.player, .int .i64 ln.week, .slice xa ln.stats.length xc] 78)) (.cells #[.int .i64 0] 3); rwa [World.size_alloc] at this
  refine callsIn_of_wp_marks Tryz.func75 rfl trivial ?_ rfl
  simp only [Tryz.ntmps75, List.size_toArray, List.length_cons, List.length_nil, Nat.reduceAdd, Nat.reduceSub, Array.replicate_succ, Array.replicate_zero, List.push_toArray, List.append_toArray, List.nil_append, List.cons_append]
  have C := Lib.hid (fun w => gifts_calls (.slice ra rs.length rc) (.slice ka ks.length kc) ln (.slice xa ln.stats.length xc) w rfl rfl rfl)
  unfold lnV at C ⊢
  gi_wp2_with fail
  rw [← hW2]
  refine ⟨trivial, (callsIn_wide.2 (C.out W2)).mono ?_⟩
  rintro e W3 ⟨rfl, hW3⟩
  have hs3 : W3.heap.size = w.heap.size + 5 := by rw [hW3]; simp [hs2]
  have hb23 : Below W2.heap.size W2 W3 := by
    rw [hW3]; exact ((below_alloc W2 _).trans ((below_alloc _ _).mono (by simp))).trans ((below_alloc _ _).mono (by simp; omega))
  have hb3 : Below w.heap.size w W3 := below_step hb2 hb23
  have hsum3 := cells_later hsum2 hb23
  have hc0 : W3.cell? ⟨W2.heap.size, 0, none⟩ = some (.slice ra rs.length rc) := by
    rw [hW3, World.cell?_alloc_past _ _ _ (by simp; omega), World.cell?_alloc_past _ _ _ (by simp), World.cell?_alloc_at _ _ _ _ rfl]; rfl
  have hc1 : W3.cell? ⟨W2.heap.size + 1, 0, none⟩ = some (.slice ka ks.length kc) := by
    rw [hW3, World.cell?_alloc_past _ _ _ (by simp), World.cell?_alloc_at _ _ _ _ (by simp)]; rfl
  have hc2 : ∀ (o : Nat) (u : Value), (#[Value.string ln.player, .int .i64 ln.week, .slice xa ln.stats.length xc] : Array Value)[o]? = some u → W3.cell? ⟨W2.heap.size + 2, o, none⟩ = some u := by
    intro o u hu
    rw [hW3, World.cell?_alloc_at _ _ _ _ (by simp)]; exact hu
  have hlift : ∀ W', Kept (w.heap.size + 5) (w.heap.size + 1) W3 W' → ∀ k, k < w.heap.size → W'.heap[k]? = w.heap[k]? := fun W' h k hk => (h.block k (by omega) (by omega)).trans (hb3.block k hk)
  have hRk : ∀ W', Kept (w.heap.size + 5) (w.heap.size + 1) W3 W' → Rls W' lo (.slice ra rs.length rc) rs := fun W' h => Rows.lift hR fun g cur fr _ hg => hlift W' h g (lt_of_heap hg)
  have hKk : ∀ W', Kept (w.heap.size + 5) (w.heap.size + 1) W3 W' → Strs W' lo' (.slice ka ks.length kc) ks := fun W' h => Rows.lift hK fun g cur fr _ hg => hlift W' h g (lt_of_heap hg)
  have hTk : ∀ W', Kept (w.heap.size + 5) (w.heap.size + 1) W3 W' → Tds W' lo3 (.slice xa ln.stats.length xc) ln.stats := fun W' h => Rows.lift hT fun g cur fr _ hg => hlift W' h g (lt_of_heap hg)
  have hgR : ∀ g off m c, Value.slice ra rs.length rc = .slice (some ⟨g, off, none⟩) m c → g < w.heap.size + 5 ∧ g ≠ w.heap.size + 1 := by
    intro g off m c e
    rcases rls_at hR with ⟨h, _⟩ | ⟨g', off', cap', e', _, hg', _⟩
    · rw [h] at e; cases e
    · rw [e'] at e
      simp only [Value.slice.injEq, Option.some.injEq, Addr.mk.injEq, and_true] at e
      omega
  have HSt := Lib.hid (gifts_stops 2 (w.heap.size + 5) (w.heap.size + 1) W2.heap.size (W2.heap.size + 1) (W2.heap.size + 2) lo lo' lo3 rs (.slice ra rs.length rc) (.slice ka ks.length kc) ks ln (.slice xa ln.stats.length xc) (by omega) (by omega) hfit hsm W3 (by omega) (by omega) (by omega) hgR hc0 hc1 ⟨hc2 0 _ rfl, hc2 1 _ rfl, hc2 2 _ rfl⟩ hRk hKk hTk)
  have Hs3 := Lib.hid hs3
  have Hb3 := Lib.hid hb3
  have Hsum3 := Lib.hid hsum3
  obtain ⟨S, hS⟩ : ∃ S, S = w.heap.size + 1 := ⟨_, rfl⟩
  have HS := Lib.hid hS
  clear hW2 hs2 hb2 hsum2 hW3 hs3 hb23 hb3 hsum3 hc0 hc1 hc2 hlift hRk hKk hTk hgR hfit hsm hR hK hT C
  gi_wp2_with fail
  rw [← hS]
  clear hS
  refine wpIn_rangeFunc_ownG rfl (by omega) (gf := 112) (lb := #[.pointer (some ⟨W2.heap.size, 0, none⟩), .pointer (some ⟨W2.heap.size + 1, 0, none⟩), .pointer (some ⟨W2.heap.size + 2, 0, none⟩)]) rfl trivial (enters_of Tryz.func112 (by kernel_rfl) rfl)
    HSt.out (fun h k => h.trans k) ?keep (Below.refl _ _) (fun _ => rfl)
    (fun pre W => W.heap[S]? = some (.cells #[.int .i64 (sumI (pre.map fun x => givenI ln.stats x.1))] 3 (0, 0)) ∧ Below w.heap.size w W) (fun _ _ _ => False) ?own (fun _ _ _ _ _ hs _ _ => hs) ?start
    (fun x => { tmps := #[.slice ra rs.length rc, .slice ka ks.length kc, .agg #[.string ln.player, .int .i64 ln.week, .slice xa ln.stats.length xc], undef, undef, .pointer (some ⟨w.heap.size, 0, none⟩), .int .i64 0, .pointer (some ⟨S, 0, none⟩), undef, .int .i64 (givenI ln.stats x.1),
      .slice ra rs.length rc, .slice ka ks.length kc, .agg #[.string ln.player, .int .i64 ln.week, .slice xa ln.stats.length xc], .func (.func 112) #[] #[.pointer (some ⟨W2.heap.size, 0, none⟩), .pointer (some ⟨W2.heap.size + 1, 0, none⟩), .pointer (some ⟨W2.heap.size + 2, 0, none⟩)],
      .string x.1.key, .int .i64 (givenI ln.stats x.1), undef, undef, undef, undef], defers := [] }) ?assign ?body ?done ?stop
  case keep =>
    intro W l o o' hl ho _ _
    have hg := grownBy_putObj' W l o'
    have h3 := Hs3.out
    refine ⟨hg.size, fun k hk _ => hg.block k ?_ ?_⟩
    · have := lt_of_heap ho; omega
    · intro e; cases e; omega
  case own =>
    intro s A B row hs hg hr
    have h3 := Hs3.out
    have h4 := HS.out
    refine ⟨(hg.block S (lt_of_heap hs.1) fun e => ?_).trans hs.1, hs.2.grown hg hs.2.size fun r e => ?_⟩
    · have := (hr S e.symm).1; omega
    · have := (hr r e).1; omega
  case start => exact ⟨by rw [HS.out]; exact Hsum3.out, Hb3.out⟩
  case assign =>
    intro l x W K hK
    unfold encG
    gi_wp2
    exact hK
  case body =>
    rintro l pre x W ⟨hc, hB⟩ hl
    have hsum := gr_sum pre
    have hx := x.2.giv
    have Hsn := Lib.hid (show sumI ((pre ++ [x]).map fun x => givenI ln.stats x.1) = sumI (pre.map fun x => givenI ln.stats x.1) + givenI ln.stats x.1 by rw [List.map_append]; exact sumI_snoc _ _)
    generalize sumI (pre.map fun x => givenI ln.stats x.1) = A at hsum hc Hsn
    generalize givenI ln.stats x.1 = G at hx Hsn
    have z0 := cell_at hc 0 rfl
    have f0 := free_of hc 0
    have Hc := Lib.hid hc
    have hwr : IntKind.i64.wrap (A + G) = A + G := IntWalk.i64_in _ (by omega)
    clear hc
    gi_wp2
    refine ⟨(KeepsOthers.setCell _ _ _).from _, ⟨by simp, fun k _ hk => ?_⟩, ?_, hB.trans ((Below.refl _ W).setCell (p := ⟨S, 0, none⟩) (by have := HS.out; show w.heap.size ≤ S; omega) _)⟩
    · exact Below.heap_setCell W _ _ k (by simpa using fun e => hk (by rw [e, HS.out]))
    · rw [Hsn.out]
      simp [World.setCell, Array.getElem?_modify, Hc.out]
  case done =>
    rintro D xs W hD hS ⟨hc, hB⟩ hK
    have Hres := Lib.hid (show sumI (xs.map fun x => givenI ln.stats x.1) = ptsI rs ks ln.stats by
      unfold ptsI
      rw [← hS, List.map_map]; rfl)
    rw [Hres.out] at hc
    have z0 := cell_at hc 0 rfl
    clear hc hS
    gi_wp2
    refine ⟨by simp, .inl ⟨_, _, rfl, run_takeDeferred hK, ?_⟩⟩
    exact ⟨_, results_tmp rfl _ _ _, rfl, hB.trans (belowK_b (w := w) (Nat.le_refl _) W D _ _ (by have := Hs3.out; omega) hK rfl rfl)⟩
  case stop =>
    rintro D c pre W _ _ h _
    exact h.elim
end Go.Proofs.YtmejjkicagkogaaGreatDoor
