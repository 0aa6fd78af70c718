/- slices.Insert of one string into a row of the call's own. -/
import Derived.Test.YtmjkbmkjnbpgeaaGreatDoorApi
import Derived.Test.YtmjkbmkjnbpgeaaGreatDoorShelg
import Derived.Test.YtmjkbmkjnbpgeaaGreatDoorBc
namespace Go.Proofs.YtmjkbmkjnbpgeaaGreatDoor
open Go.RowKit

/-- Cells of an own block are written. -/
theorem heap_setCells (g T : Nat) : ∀ (vs : List Value) (o : Nat) (w : World) (cur : Array Value), w.heap[g]? = some (.cells cur T (0, 0)) → o + vs.length ≤ cur.size →
    ∃ cur', (w.setCells g o vs).heap[g]? = some (.cells cur' T (0, 0)) ∧ cur'.size = cur.size ∧ (∀ j, j < vs.length → cur'[o + j]? = vs[j]?) ∧ ∀ k, k < o ∨ o + vs.length ≤ k → cur'[k]? = cur[k]?
  | [], o, w, cur, hg, _ => ⟨cur, hg, rfl, fun j hj => by simp at hj, fun _ _ => rfl⟩
  | v :: vs, o, w, cur, hg, hle => by
    simp only [List.length_cons] at hle
    have h1 : (w.setCell ⟨g, o, none⟩ v).heap[g]? = some (.cells (cur.setIfInBounds o v) T (0, 0)) := by simp [World.setCell, Array.getElem?_modify, hg]
    obtain ⟨cur', a, b, c, d⟩ := heap_setCells g T vs (o + 1) (w.setCell ⟨g, o, none⟩ v) (cur.setIfInBounds o v) h1 (by simp; omega)
    refine ⟨cur', a, by simpa using b, fun j hj => ?_, fun k hk => ?_⟩
    · cases j with
      | zero =>
        rw [Nat.add_zero, d o (by omega)]
        simp [show o < cur.size by omega]
      | succ j =>
        have := c j (by simpa using hj)
        rw [show o + (j + 1) = o + 1 + j by omega, this]
        simp
    · simp only [List.length_cons] at hk
      rw [d k (by omega), Array.getElem?_setIfInBounds_ne (by omega)]
theorem gb_setCells (w : World) (g o : Nat) (vs : List Value) : w.grownBy (w.setCells g o vs) (some g) := by
  induction vs generalizing o w with
  | nil => exact gb_refl _ _
  | cons v vs ih => exact gb_trans (gb_setCell w g o v) (ih _ _)
theorem take_of_get {cur : Array Value} {xs : List Value} (h : ∀ j, j < xs.length → cur[j]? = xs[j]?) : cur.toList.take xs.length = xs := by
  apply List.ext_getElem?
  intro j
  rw [List.getElem?_take]
  by_cases hj : j < xs.length
  · rw [if_pos hj, ← h j hj, Array.getElem?_toList]
  · rw [if_neg hj, List.getElem?_eq_none (by omega)]
/-- A string put in at a place. -/
def insL (ks : List ByteArray) (i : Nat) (x : ByteArray) : List ByteArray := ks.take i ++ x :: ks.drop i
theorem insL_length (ks : List ByteArray) (i : Nat) (x : ByteArray) : (insL ks i x).length = ks.length + 1 := by
  unfold insL
  rw [List.length_append, List.length_cons, ← Nat.add_assoc, ← List.length_append, List.take_append_drop]
theorem insL_end (ks : List ByteArray) (x : ByteArray) : insL ks ks.length x = ks ++ [x] := by simp [insL]
theorem insL_get (ks : List ByteArray) {i : Nat} (x : ByteArray) (hi : i ≤ ks.length) (j : Nat) : (insL ks i x)[j]? = if j < i then ks[j]? else if j = i then some x else ks[j - 1]? := by
  have hl : (ks.take i).length = i := by simp; omega
  unfold insL
  by_cases h1 : j < i
  · rw [if_pos h1, List.getElem?_append_left (by omega), List.getElem?_take, if_pos h1]
  · rw [if_neg h1, List.getElem?_append_right (by omega), hl]
    by_cases h2 : j = i
    · rw [if_pos h2, h2, Nat.sub_self]; rfl
    · rw [if_neg h2]
      obtain ⟨k, rfl⟩ : ∃ k, j = i + 1 + k := ⟨j - i - 1, by omega⟩
      rw [show i + 1 + k - i = k + 1 by omega, List.getElem?_cons_succ, List.getElem?_drop]
      congr 1
      omega
/-- What slices.Insert answers: a row of the call's own, in its old block or in a new one. -/
def Inserted (base : Nat) (v : Value) (ks : List ByteArray) (w : World) (e : Ending) (w' : World) : Prop :=
  ∃ v', e = .returned v' ∧ OwnS w' base v' ks ∧ w.grownBy w' v.ownBlock ∧ (v'.ownBlock = v.ownBlock ∨ v'.ownBlock = some w.heap.size)
theorem own_of_cells {w : World} {base g cap : Nat} {cur : Array Value} {ks : List ByteArray} (hb : base ≤ g) (hg : w.heap[g]? = some (.cells cur 9 (0, 0))) (hn : ks.length ≤ cap) (hc : cap ≤ maxLen) (hs : cur.size = cap)
    (h : ∀ (j : Nat) (k : ByteArray), ks[j]? = some k → cur[j]? = some (Value.string k)) : OwnS w base (.slice (some ⟨g, 0, none⟩) ks.length cap) ks := by
  refine ⟨by simp, .inr ⟨g, cap, cur, rfl, hb, hg, hn, hc, by simpa using hs, ?_⟩⟩
  have := take_of_get (cur := cur) (xs := ks.map Value.string) (fun j hj => by
    rw [List.length_map] at hj
    rw [List.getElem?_map, List.getElem?_eq_getElem hj]
    exact h j _ (List.getElem?_eq_getElem hj))
  simpa using this
theorem own_cells {w : World} {base g n cap : Nat} {ks : List ByteArray} (h : OwnS w base (.slice (some ⟨g, 0, none⟩) n cap) ks) :
    n = ks.length ∧ base ≤ g ∧ n ≤ cap ∧ cap ≤ maxLen ∧ ∃ cur, w.heap[g]? = some (.cells cur 9 (0, 0)) ∧ cur.size = cap ∧ ∀ (j : Nat) (k : ByteArray), ks[j]? = some k → cur[j]? = some (Value.string k) := by
  rcases h.2 with ⟨h, _⟩ | ⟨g', cap', cur, e, hb, hg, hnc, hc, hs, ht⟩
  · cases h
  · simp only [Value.slice.injEq, Option.some.injEq, Addr.mk.injEq, and_true] at e
    obtain ⟨rfl, rfl, rfl⟩ := e
    refine ⟨rfl, hb, hnc, hc, cur, hg, by simpa using hs, fun j k hk => ?_⟩
    have hj : j < ks.length := (List.getElem?_eq_some_iff.1 hk).1
    have h1 : (cur.toList.take (ks.length * 1))[j]? = some (.string k) := by rw [ht, List.getElem?_map, hk]; rfl
    rw [List.getElem?_take, if_pos (by omega)] at h1
    simpa using h1
theorem size_zc (n : Nat) : (Builtin.zeroCells (Value.string ⟨#[]⟩).cells n).size = n := by rw [size_zeroCells]; exact Nat.mul_one n
theorem insertS_calls (base X i : Nat) (v : Value) (ks : List ByteArray) (x : ByteArray) (w : World) (hown : OwnS w base v ks) (hi : i ≤ ks.length) (hn : ks.length ≤ 1000) (hb : base ≤ w.heap.size) (hX : w.heap[X]? = some (.cells #[.string x] 9 (0, 0))) (hne : v.ownBlock ≠ some X) :
    Calls Tryz.prog 178 #[v, .int .i64 i, .slice (some ⟨X, 0, none⟩) 1 1] w (Inserted base v (insL ks i x) w) := by
  have hXl := lt_of_heap hX
  have hXc : ∀ (j : Nat) (u : Value), [Value.string x][j]? = some u → w.cell? ⟨X, 0 + j, none⟩ = some u := by
    intro j u hu
    rw [cell_of_row w X _ _ _ _ hX]
    match j, hu with
    | 0, hu => simpa using hu
  have h1v : ∀ u ∈ [Value.string x], u.oneCell' = true := by intro u hu; simp at hu; subst hu; rfl
  rcases hown.2 with ⟨rfl, h0⟩ | ⟨g, cap, cur0, rfl, _⟩
  · obtain rfl : ks = [] := List.eq_nil_of_length_eq_zero h0
    obtain rfl : i = 0 := by simpa using hi
    refine (Tryz.slices_Insert_string_end_grow none 0 0 X 0 1 1 [] [.string x] w (by omega) (by omega) (by omega) (by omega) rfl rfl (fun _ => rfl) (fun a h => by cases h) hXc h1v).mono ?_
    rintro e w' ⟨rfl, rfl⟩
    have hge := grownCap_ge w (0 + 1) 0 9
    have hcm : grownCap w (0 + 1) 0 9 ≤ maxLen := grownCap_le_maxLen w (0 + 1) 0 9 (by unfold maxLen; omega)
    refine ⟨_, rfl, ?_, ?_, .inr rfl⟩
    · have := own_of_cells (ks := [x]) (cap := grownCap w (0 + 1) 0 9) (w := w.drew.alloc (.cells (([] ++ [Value.string x]).toArray ++ Builtin.zeroCells (Value.string ⟨#[]⟩).cells (grownCap w (0 + 1) 0 9 - (0 + 1))) 9)) (base := base) (g := w.heap.size) hb (heap_alloc_new w.drew _) hge hcm (by rw [Array.size_append, size_zc]; show 1 + (grownCap w (0 + 1) 0 9 - (0 + 1)) = _; omega) (fun j k hk => by
        match j, hk with
        | 0, hk => simp at hk; subst hk; rw [Array.getElem?_append_left (by simp)]; rfl)
      exact this
    · exact ⟨rfl, rfl, rfl, by simp, fun k hk _ => heap_alloc_old w.drew _ hk⟩
  · obtain ⟨-, hbg, hnc, hcm, cur, hg, hcs, hget⟩ := own_cells hown
    have hgl := lt_of_heap hg
    have hXg : X ≠ g := fun e => hne (by rw [e]; rfl)
    have hcell : ∀ (j : Nat) (u : Value), (ks.map Value.string)[j]? = some u → w.cell? ⟨g, 0 + j, none⟩ = some u := by
      intro j u hu
      rw [List.getElem?_map] at hu
      cases hk : ks[j]? with
      | none => rw [hk] at hu; cases hu
      | some k =>
        rw [hk] at hu
        simp only [Option.map_some, Option.some.injEq] at hu
        subst hu
        rw [cell_of_row w g _ _ _ _ hg, Nat.zero_add]
        exact hget j k hk
    have h1c : ∀ u ∈ ks.map Value.string, u.oneCell' = true := by intro u hu; obtain ⟨k, _, rfl⟩ := List.mem_map.1 hu; rfl
    have hsome : ∀ j, j < cap → (w.cell? ⟨g, 0 + j, none⟩).isSome = true := fun j hj => by
      rw [cell_of_row w g _ _ _ _ hg, Array.getElem?_eq_getElem (by omega)]; rfl
    have hfr : ∀ o, w.frozen? ⟨g, o, none⟩ = false := fun o => by simp [World.frozen?, hg]
    have hins := fun j => insL_get ks x hi j
    have hlen := insL_length ks i x
    by_cases hroom : ks.length + 1 ≤ cap
    · by_cases hend : i = ks.length
      · subst hend
        refine (Tryz.slices_Insert_string_end_room g 0 ks.length cap X 0 1 1 [.string x] w (by omega) hroom (by unfold maxLen at hcm; omega) rfl (fun j hj => by have := hsome (ks.length + j) (by omega); simpa using this) (fun j _ => hfr _) hXc h1v).mono ?_
        rintro e w' ⟨rfl, rfl⟩
        obtain ⟨cur', a, b, c, d⟩ := heap_setCells g 9 [.string x] (0 + ks.length) w cur hg (by simp; omega)
        refine ⟨_, rfl, ?_, gb_setCells w g _ _, .inl rfl⟩
        have := own_of_cells (ks := insL ks ks.length x) (cap := cap) hbg a (by omega) hcm (by omega) (fun j k hk => by
          rw [hins j] at hk
          split at hk
          · rename_i h
            rw [d j (by omega)]
            exact hget j k hk
          · split at hk
            · rename_i h
              subst h
              have := c 0 (by simp)
              simp only [Option.some.injEq] at hk
              subst hk
              simpa using this
            · rename_i h1 h2
              rw [List.getElem?_eq_none (by omega)] at hk
              cases hk)
        rw [hlen] at this
        exact this
      · have hlt : i < ks.length := by omega
        refine (Tryz.slices_Insert_string_shift g 0 ks.length cap i X 0 1 1 (ks.map .string) [.string x] w hlt (by omega) hroom (by unfold maxLen at hcm; omega) hXg (by simp) rfl hcell (fun j hj => hsome j (by omega)) (fun j _ => hfr _) hXc h1c h1v 9 9 1 cap (by simp [World.shape?, hX]) (by simp [World.shape?, hg, hcs]) (by omega) (by simp [World.frozen?, hX]) (by simp [World.frozen?, hX])).mono ?_
        rintro e w' ⟨rfl, rfl⟩
        have hg' : w.drew.heap[g]? = some (.cells cur 9 (0, 0)) := hg
        obtain ⟨cur1, a1, b1, c1, d1⟩ := heap_setCells g 9 ((ks.map Value.string).drop i) (0 + (i + 1)) w.drew cur hg' (by simp; omega)
        obtain ⟨cur2, a2, b2, c2, d2⟩ := heap_setCells g 9 [.string x] (0 + i) _ cur1 a1 (by simp; omega)
        refine ⟨_, rfl, ?_, ?_, .inl rfl⟩
        · have := own_of_cells (ks := insL ks i x) (cap := cap) hbg a2 (by omega) hcm (by omega) (fun j k hk => by
            rw [hins j] at hk
            split at hk
            · rename_i h
              rw [d2 j (by omega), d1 j (by omega)]
              exact hget j k hk
            · split at hk
              · rename_i h
                subst h
                have := c2 0 (by simp)
                simp only [Option.some.injEq] at hk
                subst hk
                simpa using this
              · rename_i h1 h2
                have hj : j - 1 < ks.length := (List.getElem?_eq_some_iff.1 hk).1
                rw [d2 j (by simp; omega)]
                have := c1 (j - (i + 1)) (by simp; omega)
                rw [show 0 + (i + 1) + (j - (i + 1)) = j by omega] at this
                rw [this, List.getElem?_drop, show i + (j - (i + 1)) = j - 1 by omega, List.getElem?_map, hk]; rfl)
          rw [hlen] at this
          exact this
        · exact gb_trans (⟨rfl, rfl, rfl, Nat.le_refl _, fun _ _ _ => rfl⟩ : w.grownBy w.drew (some g)) (gb_trans (gb_setCells _ _ _ _) (gb_setCells _ _ _ _))
    · have hbig : (ks.length + 1) * 16 ≤ 140737488355328 := by omega
      have hge := grownCap_ge w (ks.length + 1) cap 9
      have hcm2 : grownCap w (ks.length + 1) cap 9 ≤ maxLen := grownCap_le_maxLen w (ks.length + 1) cap 9 (by unfold maxLen; omega)
      by_cases hend : i = ks.length
      · subst hend
        refine (Tryz.slices_Insert_string_end_grow (some ⟨g, 0, none⟩) ks.length cap X 0 1 1 (ks.map .string) [.string x] w (by omega) hnc (by omega) hbig (by simp) rfl (fun h => by cases h) (fun a ha j u hu => by cases ha; rw [Addr.add_lit]; exact hcell j u hu) hXc h1v).mono ?_
        rintro e w' ⟨rfl, rfl⟩
        refine ⟨_, rfl, ?_, ⟨rfl, rfl, rfl, by simp, fun k hk _ => heap_alloc_old w.drew _ hk⟩, .inr rfl⟩
        have := own_of_cells (ks := insL ks ks.length x) (cap := grownCap w (ks.length + 1) cap 9) (w := w.drew.alloc (.cells ((ks.map Value.string ++ [Value.string x]).toArray ++ Builtin.zeroCells (Value.string ⟨#[]⟩).cells (grownCap w (ks.length + 1) cap 9 - (ks.length + 1))) 9)) (base := base) (g := w.heap.size) hb (heap_alloc_new w.drew _) (by omega) hcm2 (by rw [Array.size_append, size_zc]; simp; omega) (fun j k hk => by
          have hj : j < ks.length + 1 := by have := (List.getElem?_eq_some_iff.1 hk).1; omega
          rw [insL_end] at hk
          rw [Array.getElem?_append_left (by simp; omega)]
          have h2 : (List.map Value.string (ks ++ [x]))[j]? = some (.string k) := by rw [List.getElem?_map, hk]; rfl
          rw [List.map_append] at h2
          simpa using h2)
        rw [hlen] at this
        exact this
      · have hlt : i < ks.length := by omega
        refine (Tryz.slices_Insert_string_grow g 0 ks.length cap i X 0 1 1 (ks.map .string) [.string x] w hlt (by omega) hnc (by omega) hbig (by simp) rfl hcell hXc h1c h1v).mono ?_
        rintro e w' ⟨rfl, rfl⟩
        obtain ⟨Wa, hWa⟩ : ∃ Wa, Wa = w.alloc (.cells (((ks.map Value.string).take i).toArray ++ Builtin.zeroCells (Value.string ⟨#[]⟩).cells (ks.length + 1 - i) ++ Builtin.zeroCells (Value.string ⟨#[]⟩).cells (grownCap w (ks.length + 1) cap 9 - (ks.length + 1))) 9) := ⟨_, rfl⟩
        rw [← hWa]
        have ha0 : Wa.heap[w.heap.size]? = some (.cells (((ks.map Value.string).take i).toArray ++ Builtin.zeroCells (Value.string ⟨#[]⟩).cells (ks.length + 1 - i) ++ Builtin.zeroCells (Value.string ⟨#[]⟩).cells (grownCap w (ks.length + 1) cap 9 - (ks.length + 1))) 9 (0, 0)) := by rw [hWa]; exact heap_alloc_new w _
        obtain ⟨cu, hcu⟩ : ∃ cu, cu = ((ks.map Value.string).take i).toArray ++ Builtin.zeroCells (Value.string ⟨#[]⟩).cells (ks.length + 1 - i) ++ Builtin.zeroCells (Value.string ⟨#[]⟩).cells (grownCap w (ks.length + 1) cap 9 - (ks.length + 1)) := ⟨_, rfl⟩
        have hcus : cu.size = grownCap w (ks.length + 1) cap 9 := by
          rw [hcu, Array.size_append, Array.size_append, size_zc, size_zc]
          simp
          omega
        have hcug : ∀ j k, j < i → ks[j]? = some k → cu[j]? = some (.string k) := fun j k hj hk => by
          rw [hcu, Array.getElem?_append_left (by simp; omega), Array.getElem?_append_left (by simp; omega), List.getElem?_toArray, List.getElem?_take, if_pos hj, List.getElem?_map, hk]; rfl
        rw [← hcu] at ha0
        clear hcu
        have hgW : w.grownBy Wa (some g) := by rw [hWa]; exact gb_alloc w _ _
        clear hWa
        have ha0' : Wa.drew.heap[w.heap.size]? = some (.cells cu 9 (0, 0)) := ha0
        obtain ⟨cur1, a1, b1, c1, d1⟩ := heap_setCells w.heap.size 9 [.string x] i Wa.drew cu ha0' (by simp; omega)
        have a1' : (Wa.drew.setCells w.heap.size i [.string x]).drew.heap[w.heap.size]? = some (.cells cur1 9 (0, 0)) := a1
        obtain ⟨cur2, a2, b2, c2, d2⟩ := heap_setCells w.heap.size 9 ((ks.map Value.string).drop i) (i + 1) _ cur1 a1' (by simp; omega)
        refine ⟨_, rfl, ?_, ?_, .inr rfl⟩
        · have := own_of_cells (ks := insL ks i x) (cap := grownCap w (ks.length + 1) cap 9) hb a2 (by omega) hcm2 (by omega) (fun j k hk => by
            rw [hins j] at hk
            split at hk
            · rename_i h
              rw [d2 j (by omega), d1 j (by omega)]
              exact hcug j k h hk
            · split at hk
              · rename_i h
                subst h
                have := c1 0 (by simp)
                simp only [Option.some.injEq] at hk
                subst hk
                rw [d2 j (by omega)]
                simpa using this
              · rename_i h1 h2
                have hj : j - 1 < ks.length := (List.getElem?_eq_some_iff.1 hk).1
                have := c2 (j - (i + 1)) (by simp; omega)
                rw [show i + 1 + (j - (i + 1)) = j by omega] at this
                rw [this, List.getElem?_drop, show i + (j - (i + 1)) = j - 1 by omega, List.getElem?_map, hk]; rfl)
          rw [hlen] at this
          exact this
        · have q1 := gb_setCells Wa.drew w.heap.size i [.string x]
          have q2 := gb_setCells (Wa.drew.setCells w.heap.size i [.string x]).drew w.heap.size (i + 1) ((ks.map Value.string).drop i)
          exact gb_then hgW (gb_trans (⟨rfl, rfl, rfl, Nat.le_refl _, fun _ _ _ => rfl⟩ : Wa.grownBy Wa.drew (some w.heap.size)) (gb_trans q1 (gb_trans (⟨rfl, rfl, rfl, Nat.le_refl _, fun _ _ _ => rfl⟩ : (Wa.drew.setCells w.heap.size i [.string x]).grownBy (Wa.drew.setCells w.heap.size i [.string x]).drew (some w.heap.size)) q2))) (fun r hr => by cases hr; exact Nat.le_refl _)
end Go.Proofs.YtmjkbmkjnbpgeaaGreatDoor
