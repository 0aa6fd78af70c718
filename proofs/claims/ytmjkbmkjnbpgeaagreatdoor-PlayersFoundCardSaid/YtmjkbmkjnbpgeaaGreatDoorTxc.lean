/- A player's line read. -/
import Derived.Test.YtmjkbmkjnbpgeaaGreatDoorTxb
import Derived.Test.YtmjkbmkjnbpgeaaGreatDoorApf
import Derived.Lib.SplitLaws
import Derived.Laws.ResultCell
import Derived.Test.YtmjkbmkjnbpgeaaGreatDoorBo
import Derived.Deep.RegionHeld3
namespace Go.Proofs.YtmjkbmkjnbpgeaaGreatDoor
open Go.RowKit

theorem strs_cellsOf (w : World) (done : List ByteArray) (N : Nat) (h : done.length ≤ N) (hn : done.length ≤ 1000000) :
    Strs (w.alloc (.cells (Lib.cellsOf done N) 9)) w.heap.size (.slice (some ⟨w.heap.size, 0, none⟩) done.length N) done := by
  refine ⟨by simpa using hn, by simp, .inr ⟨w.heap.size, 0, N, _, (0, 0), by simp, ⟨Nat.le_refl _, by simpa using h⟩, heap_alloc_new w _, fun i j u hu => ?_⟩⟩
  have hj : (done.map fun k => [Value.string k])[i]?.getD [] = (done[i]?.map fun k => [Value.string k]).getD [] := by simp
  rw [hj] at hu
  cases hk : done[i]? with
  | none => simp [hk] at hu
  | some k =>
    rw [hk] at hu
    simp only [Option.map_some, Option.getD_some] at hu
    have hi := (List.getElem?_eq_some_iff.1 hk).1
    match j, hu with
    | 0, hu =>
      have : u = .string k := by simpa using hu.symm
      subst this
      unfold Lib.cellsOf
      simp only [Nat.zero_add, Nat.mul_one, Nat.add_zero, List.getElem?_toArray]
      rw [List.getElem?_append_left (by simpa using hi), List.getElem?_map, hk]
      rfl
/-- A line's three parts, and the positions of the second one. -/
def partsL (s : ByteArray) : List ByteArray := Lib.splitB ⟨#[32]⟩ 0 (min 3 (s.size + 1) - 1) s
def commaL (s : ByteArray) : List ByteArray := Lib.splitB ⟨#[44]⟩ 0 (Lib.countB s ⟨#[44]⟩) s
theorem partsL_le (s : ByteArray) : (partsL s).length ≤ min 3 (s.size + 1) := by
  have := Lib.splitB_length_le ⟨#[32]⟩ 0 (min 3 (s.size + 1) - 1) s
  unfold partsL
  omega
theorem commaL_length (s : ByteArray) : (commaL s).length = Lib.countB s ⟨#[44]⟩ + 1 := Lib.splitB_all ⟨#[44]⟩ (by decide) 0 _ s rfl
theorem commaL_le (s : ByteArray) : (commaL s).length ≤ s.size + 1 := by
  have := Lib.countB_le ⟨#[44]⟩ (by decide) s.size s (Nat.le_refl _)
  rw [commaL_length]; omega
theorem splitB_size (sep : ByteArray) : ∀ (k : Nat) (s : ByteArray), ∀ x ∈ Lib.splitB sep 0 k s, x.size ≤ s.size
  | 0, s, x, h => by
    rw [Lib.splitB_zero] at h
    obtain rfl := List.mem_singleton.1 h
    exact Nat.le_refl _
  | k + 1, s, x, h => by
    unfold Lib.splitB at h
    split at h
    · obtain rfl := List.mem_singleton.1 h
      exact Nat.le_refl _
    · rcases List.mem_cons.1 h with rfl | h
      · simp [ByteArray.size_extract]; omega
      · have := splitB_size sep k _ x h
        simp [ByteArray.size_extract] at this
        omega
theorem strAt_size {ks : List ByteArray} {n : Nat} (h : ∀ x ∈ ks, x.size ≤ n) (i : Nat) : (strAt ks i).size ≤ n := by
  unfold strAt
  cases hk : ks[i]? with
  | none => exact Nat.zero_le _
  | some k => exact h k (List.mem_of_getElem? hk)
def noneS : ByteArray := ⟨#[]⟩
/-- Has a line the form of a player's? -/
def parseB (s : ByteArray) : Bool := decide (2 < (partsL s).length) && !(strAt (partsL s) 0).toList.isEmpty && !hasS (commaL (strAt (partsL s) 1)) ⟨#[]⟩
def lineP (s : ByteArray) : PD := ⟨strAt (partsL s) 0, strAt (partsL s) 2, commaL (strAt (partsL s) 1)⟩
def parseP (s : ByteArray) : PD := if parseB s then lineP s else ⟨⟨#[]⟩, ⟨#[]⟩, []⟩
theorem lineP_small (s : ByteArray) (h : s.size ≤ 900) : SmallP (lineP s) := by
  have hp := splitB_size ⟨#[32]⟩ (min 3 (s.size + 1) - 1) s
  have h0 := strAt_size hp 0
  have h1 := strAt_size hp 1
  have h2 := strAt_size hp 2
  refine ⟨Nat.le_trans h0 (by omega), Nat.le_trans h2 (by omega), ?_, fun k hk => ?_⟩
  · have := commaL_le (strAt (partsL s) 1)
    show (commaL (strAt (partsL s) 1)).length ≤ 1000
    unfold partsL at this ⊢
    omega
  · have hk : k ∈ commaL (strAt (partsL s) 1) := hk
    have := splitB_size ⟨#[44]⟩ _ _ k hk
    unfold partsL at this
    omega
theorem splitN_calls (s : ByteArray) (w : World) (hs : s.size ≤ 1000) (hG : Glob w) :
    Calls Tryz.prog 142 #[.string s, .string ⟨#[32]⟩, .int .i64 3] w fun e w' => ∃ v c, e = .returned (.slice v (partsL s).length c) ∧ Strs w' w.heap.size (.slice v (partsL s).length c) (partsL s) ∧ Below w.heap.size w w' := by
  obtain ⟨m, hm⟩ := hG.2
  refine (Tryz.strings_SplitN s ⟨#[32]⟩ 3 m w (by omega) hm (by decide) (by omega) (by omega)).mono ?_
  rintro e w' ⟨rfl, rfl⟩
  have h1 := partsL_le s
  exact ⟨_, _, rfl, strs_cellsOf w (partsL s) _ h1 (by omega), below_alloc w _⟩
theorem split_calls (s : ByteArray) (w : World) (hs : s.size ≤ 1000) (hG : Glob w) :
    Calls Tryz.prog 133 #[.string s, .string ⟨#[44]⟩] w fun e w' => ∃ v c, e = .returned (.slice v (commaL s).length c) ∧ Strs w' w.heap.size (.slice v (commaL s).length c) (commaL s) ∧ Below w.heap.size w w' := by
  obtain ⟨m, hm⟩ := hG.2
  refine (Tryz.strings_Split s ⟨#[44]⟩ m w (by omega) hm (by decide)).mono ?_
  rintro e w' ⟨rfl, rfl⟩
  have h1 := commaL_le s
  have h2 := strs_new w (commaL s) (by omega)
  rw [commaL_length] at h2 ⊢
  exact ⟨_, _, rfl, h2, below_alloc w _⟩
theorem strs_cell {w : World} {lo n c i : Nat} {a : Option Addr} {ks : List ByteArray} (h : Strs w lo (.slice a n c) ks) (hi : i < ks.length) : ∃ g off, a = some ⟨g, off, none⟩ ∧ w.cell? ⟨g, off + i, none⟩ = some (.string (strAt ks i)) ∧ lo ≤ g := by
  rcases strs_at h with ⟨_, rfl⟩ | ⟨g, off, cap, e, hlo, _, _, hc⟩
  · simp at hi
  · simp only [Value.slice.injEq] at e
    obtain ⟨k, hk⟩ : ∃ k, ks[i]? = some k := ⟨_, List.getElem?_eq_getElem hi⟩
    exact ⟨g, off, e.1, by rw [hc i k hk, strAt_some hk], hlo⟩
/-- A struct of three cells stored into its block: what each step reads, and what lies there behind. -/
theorem store3 {w : World} {X T : Nat} {a b c : Value} (h : w.heap[X]? = some (.cells #[a, b, c] T (0, 0))) (x y z : Value) :
    (w.cell? ⟨X, 0, none⟩ = some a ∧ w.frozen? ⟨X, 0, none⟩ = false) ∧
    ((w.setCell ⟨X, 0, none⟩ x).cell? ⟨X, 1, none⟩ = some b ∧ (w.setCell ⟨X, 0, none⟩ x).frozen? ⟨X, 1, none⟩ = false) ∧
    (((w.setCell ⟨X, 0, none⟩ x).setCell ⟨X, 1, none⟩ y).cell? ⟨X, 2, none⟩ = some c ∧ ((w.setCell ⟨X, 0, none⟩ x).setCell ⟨X, 1, none⟩ y).frozen? ⟨X, 2, none⟩ = false) ∧
    (((w.setCell ⟨X, 0, none⟩ x).setCell ⟨X, 1, none⟩ y).setCell ⟨X, 2, none⟩ z).heap[X]? = some (.cells #[x, y, z] T (0, 0)) := by
  have h1 : (w.setCell ⟨X, 0, none⟩ x).heap[X]? = some (.cells #[x, b, c] T (0, 0)) := by simp [World.setCell, Array.getElem?_modify, h]
  have h2 : ((w.setCell ⟨X, 0, none⟩ x).setCell ⟨X, 1, none⟩ y).heap[X]? = some (.cells #[x, y, c] T (0, 0)) := by
    generalize w.setCell ⟨X, 0, none⟩ x = w1 at h1 ⊢
    simp [World.setCell, Array.getElem?_modify, h1]
  refine ⟨⟨?_, ?_⟩, ⟨?_, ?_⟩, ⟨?_, ?_⟩, ?_⟩
  · rw [cell_of_row _ _ _ _ _ _ h]; rfl
  · simp [World.frozen?, h]
  · rw [cell_of_row _ _ _ _ _ _ h1]; rfl
  · generalize w.setCell ⟨X, 0, none⟩ x = w1 at h1 ⊢
    simp [World.frozen?, h1]
  · rw [cell_of_row _ _ _ _ _ _ h2]; rfl
  · generalize (w.setCell ⟨X, 0, none⟩ x).setCell ⟨X, 1, none⟩ y = w1 at h2 ⊢
    simp [World.frozen?, h2]
  · generalize (w.setCell ⟨X, 0, none⟩ x).setCell ⟨X, 1, none⟩ y = w1 at h2 ⊢
    simp [World.setCell, Array.getElem?_modify, h2]
set_option maxRecDepth 100000 in
set_option maxHeartbeats 4000000 in
theorem parse_calls (s : ByteArray) (w : World) (hs : s.size ≤ 900) (hG : Glob w) :
    Calls Tryz.prog 139 #[.string s] w fun e w' => ∃ x, e = .returned (.tuple #[.agg #[.string (parseP s).key, .string (parseP s).name, x], .bool (parseB s)]) ∧ Strs w' w.heap.size x (parseP s).pos ∧ Below w.heap.size w w' := by
  have HB := Lib.hid (show parseB s = (decide (2 < (partsL s).length) && !(strAt (partsL s) 0).toList.isEmpty && !hasS (commaL (strAt (partsL s) 1)) ⟨#[]⟩) from rfl)
  have HN := Lib.hid (show parseB s = false → parseP s = ⟨⟨#[]⟩, ⟨#[]⟩, []⟩ from fun h => by unfold parseP; rw [h]; rfl)
  have HY := Lib.hid (show parseB s = true → parseP s = ⟨strAt (partsL s) 0, strAt (partsL s) 2, commaL (strAt (partsL s) 1)⟩ from fun h => by unfold parseP; rw [h]; rfl)
  have hz := strAt_size (splitB_size ⟨#[32]⟩ (min 3 (s.size + 1) - 1) s) 1
  have HZ := Lib.hid (show (strAt (partsL s) 1).size ≤ 1000 from Nat.le_trans hz (by omega))
  generalize parseB s = b at HB HN HY ⊢
  generalize parseP s = p at HN HY ⊢
  have C1 := Lib.hid (fun w' (h : Below w.heap.size w w') => splitN_calls s w' (by omega) (hG.below h))
  have hle := partsL_le s
  generalize partsL s = P at HB HY C1 HZ hle
  have HG := Lib.hid hG
  clear hz hG
  go_enter Tryz.func139, Tryz.ntmps139
  go_wp2_with fail
  refine (C1.out _ (below_alloc w _)).mono ?_
  rintro e w1 ⟨v, c, rfl, hS, hb1⟩
  have hb01 := below_step (below_alloc w _) hb1
  have hx1 : w1.heap[w.heap.size]? = some (.cells #[.string ⟨#[]⟩, .string ⟨#[]⟩, .slice none 0 0] 86 (0, 0)) := (hb1.block _ (by simp)).trans (heap_alloc_new w _)
  clear C1 hb1
  have HG1 := Lib.hid (fun w' (h : Below w.heap.size w w') => HG.out.below h)
  by_cases h3 : P.length < 3
  · have d1 : decide ((P.length : Int) < 3) = true := decide_eq_true (by omega)
    have hb := HB.out
    rw [decide_eq_false (show ¬ 2 < P.length by omega), Bool.false_and, Bool.false_and] at hb
    have hp := HN.out hb
    subst hb hp
    obtain ⟨⟨k0, f0⟩, ⟨k1, f1⟩, ⟨k2, f2⟩, hx6⟩ := store3 hx1 (.string ⟨#[]⟩) (.string ⟨#[]⟩) (.slice none 0 0)
    have z0 := cell_of_row _ _ 0 _ _ _ hx6
    have z1 := cell_of_row _ _ 1 _ _ _ hx6
    have z2 := cell_of_row _ _ 2 _ _ _ hx6
    clear HB HN HY HZ hS hle HG HG1 hx6 hx1
    go_wp2_with fail
    refine bodyPost_ret (v := .tuple #[.agg #[.string ⟨#[]⟩, .string ⟨#[]⟩, .slice none 0 0], .bool false]) ?_ rfl ⟨_, rfl, ⟨by simp, by simp, .inl ⟨rfl, rfl⟩⟩, ((hb01.setCell (p := ⟨w.heap.size, 0, none⟩) (Nat.le_refl _) _).setCell (p := ⟨w.heap.size, 1, none⟩) (Nat.le_refl _) _).setCell (p := ⟨w.heap.size, 2, none⟩) (Nat.le_refl _) _⟩
    rw [results_cell_tmp rfl]
    go_simp
  · obtain ⟨g, off, rfl, y0, hgX⟩ := strs_cell hS (i := 0) (by omega)
    obtain ⟨g', off', e, y1, -⟩ := strs_cell hS (i := 1) (by omega)
    obtain ⟨rfl, rfl⟩ : g = g' ∧ off = off' := by simpa using e
    obtain ⟨g', off', e, y2, -⟩ := strs_cell hS (i := 2) (by omega)
    obtain ⟨rfl, rfl⟩ : g = g' ∧ off = off' := by simpa using e
    rw [Nat.add_zero] at y0
    have h33 : P.length = 3 := by omega
    have hP3 : decide (2 < P.length) = true := decide_eq_true (by omega)
    rw [hP3, Bool.true_and] at HB
    have C2 := Lib.hid (split_calls (strAt P 1) w1 HZ.out (HG1.out w1 hb01))
    generalize strAt P 0 = k0 at y0 HB HY
    generalize strAt P 1 = k1 at y1 HB HY C2
    generalize strAt P 2 = k2 at y2 HY
    have HS := Lib.hid hS
    have HgX := Lib.hid (show w.heap.size < g by have := hgX; simp at this; omega)
    clear hS hle HZ HG HG1 hP3 h3 hgX
    rw [h33]
    clear h33
    cases he : k0.toList.isEmpty
    · rw [he, Bool.not_false, Bool.true_and] at HB
      go_wp2_with fail
      refine C2.out.mono ?_
      rintro e w2 ⟨v2, c2, rfl, hS2, hb2⟩
      have hb02 := below_step hb01 hb2
      have y0 := below_cell hb2 y0
      have y2 := below_cell hb2 y2
      have hx2 : w2.heap[w.heap.size]? = some (.cells #[.string ⟨#[]⟩, .string ⟨#[]⟩, .slice none 0 0] 86 (0, 0)) := (hb2.block _ (lt_of_heap hx1)).trans hx1
      have HS2 := Lib.hid hS2
      have C3 := Lib.hid (contains_calls w1.heap.size _ (commaL k1) ⟨#[]⟩ w2 hS2)
      clear y1 C2 hx1 hb2 hS2
      go_wp2_with fail
      refine C3.out.mono ?_
      rintro e w3 ⟨rfl, rfl⟩
      clear C3
      cases hh : hasS (commaL k1) ⟨#[]⟩
      · have hb : b = true := by have h := HB.out; rw [hh] at h; exact h
        have hp := HY.out hb
        subst hb hp
        obtain ⟨⟨j0, f0⟩, -, -, hx6⟩ := store3 hx2 (.string k0) (.string k2) (.slice v2 (commaL k1).length c2)
        have j1 : w2.cell? ⟨w.heap.size, 1, none⟩ = some (.string ⟨#[]⟩) := by rw [cell_of_row w2 _ _ _ _ _ hx2]; rfl
        have j2 : w2.cell? ⟨w.heap.size, 2, none⟩ = some (.slice none 0 0) := by rw [cell_of_row w2 _ _ _ _ _ hx2]; rfl
        have f1 : w2.frozen? ⟨w.heap.size, 1, none⟩ = false := by simp [World.frozen?, hx2]
        have f2 : w2.frozen? ⟨w.heap.size, 2, none⟩ = false := by simp [World.frozen?, hx2]
        have hb6 := ((hb02.setCell (p := ⟨w.heap.size, 0, none⟩) (Nat.le_refl _) (.string k0)).setCell (p := ⟨w.heap.size, 1, none⟩) (Nat.le_refl _) (.string k2)).setCell (p := ⟨w.heap.size, 2, none⟩) (Nat.le_refl _) (.slice v2 (commaL k1).length c2)
        have hg3 : w2.grownBy (((w2.setCell ⟨w.heap.size, 0, none⟩ (.string k0)).setCell ⟨w.heap.size, 1, none⟩ (.string k2)).setCell ⟨w.heap.size, 2, none⟩ (.slice v2 (commaL k1).length c2)) (some w.heap.size) := gb_trans (gb_setCell _ _ _ _) (gb_trans (gb_setCell _ _ _ _) (gb_setCell _ _ _ _))
        have q0 : w2.drew.cell? ⟨g, off, none⟩ = some (.string k0) := y0
        have q2 : w2.drew.cell? ⟨g, off + 2, none⟩ = some (.string k2) := y2
        have r0 := gb_cell hg3 y0 (by have := HgX.out; omega)
        have r2 := gb_cell hg3 y2 (by have := HgX.out; omega)
        have hS6 : Strs (((w2.setCell ⟨w.heap.size, 0, none⟩ (.string k0)).setCell ⟨w.heap.size, 1, none⟩ (.string k2)).setCell ⟨w.heap.size, 2, none⟩ (.slice v2 (commaL k1).length c2)) w1.heap.size (.slice v2 (commaL k1).length c2) (commaL k1) := HS2.out.row hg3 fun r hr => ⟨_, _, _, by cases hr; exact hx2, by decide⟩
        have HS6 := Lib.hid ((Strs.mono hS6 hb01.size).below (Below.refl _ _).drew)
        have z0 := cell_of_row _ _ 0 _ _ _ hx6
        have z1 := cell_of_row _ _ 1 _ _ _ hx6
        have z2 := cell_of_row _ _ 2 _ _ _ hx6
        have Hb6 := Lib.hid hb6.drew
        clear HB HN HY hx6 hx2 hb6 hg3 hS6 HS2 HS y0 y2 hb02 hb01
        go_upto_region 7 with fail
        refine wp_region_held_drew (S := fun w' => w'.cell? ⟨g, off, none⟩ = some (.string k0) ∧ w'.cell? ⟨g, off + 2, none⟩ = some (.string k2)) (by kernel_rfl) ?_ (fun hHeld => ?_)
        · (first | exact ⟨q0, q2⟩ | exact ⟨r0, r2⟩)
        refine take_at 0 25 (v := ?_) rfl rfl (by kernel_rfl) (by kernel_rfl) (by kernel_rfl) (fun _ _ _ h => h) (by rfl) ?y0 (by assumption) ?r0
        case y0 =>
          intro w hSw
          try dsimp only at hSw
          go_simp
          try with_reducible rfl
        simp only [List.set_cons_zero, List.set_cons_succ]
        refine take_at 1 26 (v := ?_) rfl rfl (by kernel_rfl) (by kernel_rfl) (by kernel_rfl) (fun _ _ _ h => h) (by rfl) ?y1 (by assumption) ?r1
        case y1 =>
          intro w hSw
          try dsimp only at hSw
          go_simp
          try with_reducible rfl
        simp only [List.set_cons_zero, List.set_cons_succ]
        refine take_at 2 27 (v := ?_) rfl rfl (by kernel_rfl) (by kernel_rfl) (by kernel_rfl) (fun _ _ _ h => h) (by rfl) ?y2 (by assumption) ?r2
        case y2 =>
          intro w hSw
          try dsimp only at hSw
          go_simp
          try with_reducible rfl
        simp only [List.set_cons_zero, List.set_cons_succ]
        refine take_at 3 28 (v := ?_) rfl rfl (by kernel_rfl) (by kernel_rfl) (by kernel_rfl) (fun _ _ _ h => h) (by rfl) ?y3 (by assumption) ?r3
        case y3 =>
          intro w hSw
          try dsimp only at hSw
          go_simp
          try with_reducible rfl
        simp only [List.set_cons_zero, List.set_cons_succ]
        refine take_at 4 29 (v := ?_) rfl rfl (by kernel_rfl) (by kernel_rfl) (by kernel_rfl) (fun _ _ _ h => h) (by rfl) ?y4 (by assumption) ?r4
        case y4 =>
          intro w hSw
          try dsimp only at hSw
          go_simp
          try with_reducible rfl
        simp only [List.set_cons_zero, List.set_cons_succ]
        refine take_at 5 30 (v := ?_) rfl rfl (by kernel_rfl) (by kernel_rfl) (by kernel_rfl) (fun _ _ _ h => h) (by rfl) ?y5 (by assumption) ?r5
        case y5 =>
          intro w hSw
          try dsimp only at hSw
          go_simp
          try with_reducible rfl
        simp only [List.set_cons_zero, List.set_cons_succ]
        refine take_at 6 31 (v := ?_) rfl rfl (by kernel_rfl) (by kernel_rfl) (by kernel_rfl) (fun _ _ _ h => h) (by rfl) ?y6 (by assumption) ?r6
        case y6 =>
          intro w hSw
          try dsimp only at hSw
          go_simp
          try with_reducible rfl
        simp only [List.set_cons_zero, List.set_cons_succ]
        refine run_at 7 rfl (by kernel_rfl) (by rfl) (fun K hK => ?_)
        go_simp
        refine hK.out _ _ ?_ (fun hHeld => ?_)
        · (first | exact ⟨q0, q2⟩ | exact ⟨r0, r2⟩)
        clear hK K
        try simp only [Act.put, List.setIfInBounds_toArray, List.set_cons_zero, List.set_cons_succ]
        refine run_at 8 rfl (by kernel_rfl) (by rfl) (fun K hK => ?_)
        go_simp
        refine hK.out _ _ ?_ (fun hHeld => ?_)
        · (first | exact ⟨q0, q2⟩ | exact ⟨r0, r2⟩)
        clear hK K
        try simp only [Act.put, List.setIfInBounds_toArray, List.set_cons_zero, List.set_cons_succ]
        refine take_at 9 3 (v := ?_) rfl rfl (by kernel_rfl) (by kernel_rfl) (by kernel_rfl) (fun _ _ _ h => h) (by rfl) ?y9 (by assumption) ?r9
        case y9 =>
          intro w hSw
          try dsimp only at hSw
          go_simp
          try with_reducible rfl
        simp only [List.set_cons_zero, List.set_cons_succ]
        refine wpAnyH_done (by kernel_rfl) ?_ _
        go_wp2_with fail
        refine bodyPost_ret (v := .tuple #[.agg #[.string k0, .string k2, .slice v2 (commaL k1).length c2], .bool true]) ?_ rfl ⟨_, rfl, HS6.out, Hb6.out⟩
        rw [results_cell_tmp rfl]
        go_simp
      · have hb : b = false := by have h := HB.out; rw [hh] at h; exact h
        have hp := HN.out hb
        subst hb hp
        obtain ⟨⟨j0, f0⟩, ⟨j1, f1⟩, ⟨j2, f2⟩, hx6⟩ := store3 hx2 (.string ⟨#[]⟩) (.string ⟨#[]⟩) (.slice none 0 0)
        have z0 := cell_of_row _ _ 0 _ _ _ hx6
        have z1 := cell_of_row _ _ 1 _ _ _ hx6
        have z2 := cell_of_row _ _ 2 _ _ _ hx6
        clear HB HN HY hx6 hx2 HS2 y0 y2
        go_wp2_with fail
        refine bodyPost_ret (v := .tuple #[.agg #[.string ⟨#[]⟩, .string ⟨#[]⟩, .slice none 0 0], .bool false]) ?_ rfl ⟨_, rfl, ⟨by simp, by simp, .inl ⟨rfl, rfl⟩⟩, ((hb02.setCell (p := ⟨w.heap.size, 0, none⟩) (Nat.le_refl _) _).setCell (p := ⟨w.heap.size, 1, none⟩) (Nat.le_refl _) _).setCell (p := ⟨w.heap.size, 2, none⟩) (Nat.le_refl _) _⟩
        rw [results_cell_tmp rfl]
        go_simp
    · have hb : b = false := by have h := HB.out; rw [he] at h; exact h
      have hp := HN.out hb
      subst hb hp
      obtain ⟨⟨j0, f0⟩, ⟨j1, f1⟩, ⟨j2, f2⟩, hx6⟩ := store3 hx1 (.string ⟨#[]⟩) (.string ⟨#[]⟩) (.slice none 0 0)
      have z0 := cell_of_row _ _ 0 _ _ _ hx6
      have z1 := cell_of_row _ _ 1 _ _ _ hx6
      have z2 := cell_of_row _ _ 2 _ _ _ hx6
      clear HB HN HY hx6 hx1 C2 y1 y2
      go_wp2_with fail
      refine bodyPost_ret (v := .tuple #[.agg #[.string ⟨#[]⟩, .string ⟨#[]⟩, .slice none 0 0], .bool false]) ?_ rfl ⟨_, rfl, ⟨by simp, by simp, .inl ⟨rfl, rfl⟩⟩, ((hb01.setCell (p := ⟨w.heap.size, 0, none⟩) (Nat.le_refl _) _).setCell (p := ⟨w.heap.size, 1, none⟩) (Nat.le_refl _) _).setCell (p := ⟨w.heap.size, 2, none⟩) (Nat.le_refl _) _⟩
      rw [results_cell_tmp rfl]
      go_simp
end Go.Proofs.YtmjkbmkjnbpgeaaGreatDoor
