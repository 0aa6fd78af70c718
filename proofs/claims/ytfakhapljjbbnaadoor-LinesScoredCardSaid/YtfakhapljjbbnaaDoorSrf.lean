/- Lines that are built up; the errors gathered one after another. -/
import Derived.Test.YtfakhapljjbbnaaDoorSre
import Derived.Test.YtfakhapljjbbnaaDoorSrb
namespace Go.Proofs.YtfakhapljjbbnaaDoor
open Go.RowKit

/-- Lines that a function builds up by append. -/
def OwnLn (lo : Nat) (w : World) (v : Value) (ls : List LD) : Prop :=
  ∃ svs : List Value, svs.length = ls.length ∧ w.ownsRow lo 32 3 v ls.length (lnRows ls svs).flatten ∧ ∀ (i : Nat) (x : Value) (l : LD), svs[i]? = some x → ls[i]? = some l → Tds w lo x l.stats
theorem OwnLn.nil (lo : Nat) (w : World) : OwnLn lo w (.slice none 0 0) [] := ⟨[], rfl, World.ownsRow_nil _ _ _ _, fun i x l h => by simp at h⟩
theorem OwnLn.keep {lo B : Nat} {w w' : World} {v : Value} {ls : List LD} (h : OwnLn lo w v ls) (hg : w.grownBy w' (some B)) (hB : B < lo) : OwnLn lo w' v ls := by
  obtain ⟨svs, h1, h2, h3⟩ := h
  exact ⟨svs, h1, own_keep h2 hg hB, fun i x l hx hl => (h3 i x l hx hl).other hg hB⟩
theorem OwnLn.alloc {lo : Nat} {w : World} {v : Value} {ls : List LD} (h : OwnLn lo w v ls) (o : Obj) : OwnLn lo (w.alloc o) v ls := by
  obtain ⟨svs, h1, h2, h3⟩ := h
  exact ⟨svs, h1, World.ownsRow.alloc h2 o, fun i x l hx hl => (h3 i x l hx hl).below (below_alloc w o)⟩
theorem OwnLn.block {lo : Nat} {w : World} {v : Value} {ls : List LD} (h : OwnLn lo w v ls) : ∀ r, v.ownBlock = some r → lo ≤ r ∧ ∃ cur, w.heap[r]? = some (.cells cur 32 (0, 0)) := by
  obtain ⟨svs, h1, h2, h3⟩ := h
  exact own_block h2
theorem OwnLn.own {lo : Nat} {w : World} {v : Value} {ls : List LD} (h : OwnLn lo w v ls) : ∃ xs : List Value, w.ownsRow lo 32 3 v ls.length xs ∧ ∀ (w' : World) (v' : Value) (l : LD) (x : Value), Tds w lo x l.stats → w.grownBy w' v.ownBlock → w'.ownsRow lo 32 3 v' (ls.length + 1) (xs ++ [.string l.player, .int .i64 l.week, x]) → OwnLn lo w' v' (ls ++ [l]) := by
  have hblk := h.block
  obtain ⟨svs, h1, h2, h3⟩ := h
  refine ⟨_, h2, fun w' v' l x hx hg ho => ?_⟩
  have hrow : ∀ (u : Value) (ts : List TD), Tds w lo u ts → Tds w' lo u ts := fun u ts ht => Rows.row ht hg fun r hr => by
    obtain ⟨_, cur, hc⟩ := hblk r hr
    exact ⟨cur, _, _, hc, by decide⟩
  refine ⟨svs ++ [x], by simp [h1], ?_, fun i y m hy hm => ?_⟩
  · have e : lnRows (ls ++ [l]) (svs ++ [x]) = lnRows ls svs ++ [[.string l.player, .int .i64 l.week, x]] := by
      unfold lnRows
      rw [List.zipWith_append h1.symm]
      rfl
    rw [e, List.flatten_append]
    simpa using ho
  · rcases Nat.lt_or_ge i ls.length with hi | hi
    · rw [List.getElem?_append_left (by omega)] at hy
      rw [List.getElem?_append_left hi] at hm
      exact hrow _ _ (h3 i y m hy hm)
    · rw [List.getElem?_append_right (by omega)] at hy
      rw [List.getElem?_append_right hi] at hm
      rw [h1] at hy
      obtain ⟨j, hj⟩ : ∃ j, j = i - ls.length := ⟨_, rfl⟩
      rw [← hj] at hy hm
      match j, hy, hm with
      | 0, hy, hm =>
        simp at hy hm
        subst hy hm
        exact hrow _ _ hx
      | j + 1, hy, hm => simp at hm
theorem ln_each (ls : List LD) (svs : List Value) : ∀ r ∈ lnRows ls svs, r.length = 3 := by
  intro r hr
  obtain ⟨i, hi⟩ := List.getElem?_of_mem hr
  unfold lnRows at hi
  rw [List.getElem?_zipWith] at hi
  cases h1 : ls[i]? <;> cases h2 : svs[i]? <;> simp [h1, h2] at hi
  subst hi; rfl
theorem OwnLn.lns {lo : Nat} {w : World} {v : Value} {ls : List LD} (h : OwnLn lo w v ls) (hn : ls.length ≤ 1000000) : Lns w lo v ls := by
  obtain ⟨svs, h1, h2, h3⟩ := h
  exact ⟨svs, h1, Rows.of_owns (by rw [lnRows_length h1]; exact h2) (by rw [lnRows_length h1]; exact hn) (ln_each ls svs), h3⟩

theorem first2 (x y : Int) : firstE [x, y] = if x = 0 then y else x := by
  unfold firstE firstE firstE
  by_cases hx : x = 0
  · by_cases hy : y = 0 <;> simp [hx, hy]
  · simp [hx]
theorem firstE_app (a b : List Int) : firstE (a ++ b) = if firstE a = 0 then firstE b else firstE a := by
  induction a with
  | nil => simp [firstE]
  | cons x xs ih =>
    rw [List.cons_append, firstE, firstE, ih]
    by_cases hx : x = 0
    · simp [hx]
    · simp [hx]
theorem errsTo_succ (f : Nat → Int) (k : Nat) : errsTo f (k + 1) = firstE [errsTo f k, f k] := by
  unfold errsTo
  rw [List.range_succ, List.map_append, firstE_app, first2]
  by_cases h2 : f k = 0 <;> simp [firstE, h2]
theorem errs_step (E : Int) (f : Nat → Int) (k : Nat) : firstE [firstE [E, errsTo f k], f k] = firstE [E, errsTo f (k + 1)] := by
  rw [errsTo_succ, first2, first2, first2, first2]
  by_cases h : E = 0
  · simp [h]
  · simp [h]
theorem errs_zero (E : Int) (f : Nat → Int) : firstE [E, errsTo f 0] = E := by
  rw [first2]
  by_cases h : E = 0
  · simp [h, errsTo, firstE]
  · simp [h]
theorem wr_first (rs : List RD) (ks : List ByteArray) : firstE [chkRl rs, lfE false ks] = wrE rs ks := rfl
/-- The tape as the law is handed it. -/
def Tape (w : World) (lv : Value) : Prop := (∃ a c, lv = .slice a 0 c) ∨ ∃ b off len cap, lv = .slice (some ⟨b, off, none⟩) len cap ∧ b < w.heap.size ∧ len ≤ 140737488355328 ∧ ∀ j, j < len → ∃ x : Int, w.cell? ⟨b, off + j, none⟩ = some (.int .i64 x)
theorem Tape.stm {w : World} {lv : Value} (h : Tape w lv) (T : Nat) : Stm (w.alloc (.cells #[lv, .int .i64 0] T)) T w.heap.size 0 := by
  refine ⟨lv, 0, heap_alloc_new w _, Nat.le_refl _, ?_⟩
  rcases h with h | ⟨b, off, len, cap, e, hb, hl, hx⟩
  · exact .inl h
  · exact .inr ⟨b, off, len, cap, e, hb, hl, fun j hj => by obtain ⟨x, hx⟩ := hx j hj; exact ⟨x, below_cell (below_alloc w _) hx⟩⟩
theorem Tape.shape {w : World} {lv : Value} (h : Tape w lv) : ∃ a n c, lv = .slice a n c := by
  rcases h with ⟨a, c, h⟩ | ⟨b, off, len, cap, e, _⟩
  · exact ⟨_, _, _, h⟩
  · exact ⟨_, _, _, e⟩
end Go.Proofs.YtfakhapljjbbnaaDoor
