/- The reference's way to take a player's line. -/
import Derived.Test.YtmjkbmkjnbpgeaaGreatDoorTxc
import Derived.Deep.Cut
import Derived.Deep.CutRange
namespace Go.Proofs.YtmjkbmkjnbpgeaaGreatDoor
open Go.RowKit

/-- The players taken so far lie in the cell of block O. -/
def Outs (w : World) (base O : Nat) (L : List PD) : Prop := ∃ v, w.heap[O]? = some (.cells #[v] 26 (0, 0)) ∧ OwnPs w base v L
theorem Outs.below {w w' : World} {base O : Nat} {L : List PD} (h : Outs w base O L) (hb : Below w.heap.size w w') : Outs w' base O L := by
  obtain ⟨v, h1, h2⟩ := h
  exact ⟨v, (hb.block O (lt_of_heap h1)).trans h1, h2.below hb⟩
def tookB (s : ByteArray) : Bool := decide (2 < (partsL s).length) && !(strAt (partsL s) 0).toList.isEmpty
def tookP (s : ByteArray) (L : List PD) : List PD := if tookB s then L ++ [lineP s] else L
set_option maxRecDepth 100000 in
set_option maxHeartbeats 8000000 in
theorem readR1_calls (s : ByteArray) (O base : Nat) (L : List PD) (w : World) (hs : s.size ≤ 900) (hG : Glob w) (hO : Outs w base O L) (hOb : O < base) (hbase : base ≤ w.heap.size) (hL : L.length ≤ 10000) :
    Calls Tryz.prog 141 #[.string s, .pointer (some ⟨O, 0, none⟩)] w fun e w' => e = .returned (.bool (parseB s)) ∧ Outs w' base O (tookP s L) ∧ Below O w w' := by
  obtain ⟨j0, hj, hy0, hy1, hy2⟩ := info_parts info_pl
  have HB := Lib.hid (show parseB s = (decide (2 < (partsL s).length) && !(strAt (partsL s) 0).toList.isEmpty && !hasS (commaL (strAt (partsL s) 1)) ⟨#[]⟩) from rfl)
  have HT := Lib.hid (show tookP s L = if (decide (2 < (partsL s).length) && !(strAt (partsL s) 0).toList.isEmpty) then L ++ [⟨strAt (partsL s) 0, strAt (partsL s) 2, commaL (strAt (partsL s) 1)⟩] else L from rfl)
  have hz := strAt_size (splitB_size ⟨#[32]⟩ (min 3 (s.size + 1) - 1) s) 1
  have HZ := Lib.hid (show (strAt (partsL s) 1).size ≤ 900 from Nat.le_trans hz hs)
  generalize parseB s = b at HB ⊢
  generalize tookP s L = R at HT ⊢
  have C1 := Lib.hid (splitN_calls s w (by omega) hG)
  have hle := partsL_le s
  generalize partsL s = P at HB HT C1 HZ hle
  have HG := Lib.hid hG
  have HO := Lib.hid hO
  have hOw : O < w.heap.size := by omega
  clear hz hG hO
  go_enter Tryz.func141, Tryz.ntmps141
  go_wp2_with fail
  refine C1.out.mono ?_
  rintro e w1 ⟨v, c, rfl, hS, hb1⟩
  have HO1 := Lib.hid (HO.out.below hb1)
  have hbO := hb1.mono (Nat.le_of_lt hOw)
  have hs1 := hb1.size
  have HG1 := Lib.hid (fun w' (h : Below w1.heap.size w1 w') => HG.out.below (below_step hb1 h))
  clear C1 HO HG
  by_cases h3 : P.length < 3
  · have d1 : ((P.length : Int) != 3) = true := by rw [bne_iff_ne]; omega
    have hb : b = false := by rw [HB.out, decide_eq_false (show ¬ 2 < P.length by omega)]; rfl
    have hr : R = L := by rw [HT.out, decide_eq_false (show ¬ 2 < P.length by omega)]; rfl
    subst hb hr
    clear HB HT HZ hS hle HG1 hb1 h3
    go_wp2_with fail
    go_ret
    exact ⟨rfl, HO1.out, hbO⟩
  · obtain ⟨g, off, rfl, y0, hgX⟩ := strs_cell hS (i := 0) (by omega)
    obtain ⟨g', off', e, y1, -⟩ := strs_cell hS (i := 1) (by omega)
    obtain ⟨rfl, rfl⟩ : g = g' ∧ off = off' := by simpa using e
    clear e
    obtain ⟨g', off', e, y2, -⟩ := strs_cell hS (i := 2) (by omega)
    obtain ⟨rfl, rfl⟩ : g = g' ∧ off = off' := by simpa using e
    clear e
    rw [Nat.add_zero] at y0
    have h33 : P.length = 3 := by omega
    have hP3 : decide (2 < P.length) = true := decide_eq_true (by omega)
    rw [hP3, Bool.true_and] at HB HT
    have C2 := Lib.hid (fun w' (h : Below w1.heap.size w1 w') => split_calls (strAt P 1) w' (by have := HZ.out; omega) (HG1.out w' h))
    have hk1 := HZ.out
    generalize strAt P 0 = k0 at y0 HB HT
    generalize strAt P 1 = k1 at y1 HB HT C2 hk1
    generalize strAt P 2 = k2 at y2 HT
    rw [h33]
    clear h33 hle HZ HG1 hP3 h3 hS hgX hb1
    cases he : k0.toList.isEmpty
    · have HR := Lib.hid (show R = L ++ [⟨k0, k2, commaL k1⟩] by rw [HT.out, he]; rfl)
      have HB := Lib.hid (show b = !hasS (commaL k1) ⟨#[]⟩ by rw [HB.out, he]; rfl)
      have HS := Lib.hid (show ∀ w', Below w1.heap.size w1 w' → (Below w1.heap.size w1 w' ∧ w'.cell? ⟨g, off, none⟩ = some (.string k0) ∧ w'.cell? ⟨g, off + 1, none⟩ = some (.string k1) ∧ w'.cell? ⟨g, off + 2, none⟩ = some (.string k2)) from fun w' hb => ⟨hb, below_cell hb y0, below_cell hb y1, below_cell hb y2⟩)
      have hb0 := (Below.refl w1.heap.size w1).drew
      clear HT
      go_upto_region 4 with fail
      go_cut [5] from 6 to 35 (fun p wc => ∃ X v2 c2, p = .pointer (some ⟨X, 0, none⟩) ∧ w1.heap.size ≤ X ∧ wc.heap[X]? = some (.cells #[.string k0, .string k2, .slice v2 (commaL k1).length c2] 86 (0, 0)) ∧ Strs wc w1.heap.size (.slice v2 (commaL k1).length c2) (commaL k1) ∧ Below w1.heap.size w1 wc)
      case first =>
        clear y0 y1 y2 HO1 hbO
        refine wp_region_held_drew (S := fun w' => Below w1.heap.size w1 w' ∧ w'.cell? ⟨g, off, none⟩ = some (.string k0) ∧ w'.cell? ⟨g, off + 1, none⟩ = some (.string k1) ∧ w'.cell? ⟨g, off + 2, none⟩ = some (.string k2)) (by kernel_rfl) ?_ (fun hHeld => ?_)
        · (exact HS.out _ (by first | assumption | exact hHeld.1 | exact below_step hHeld.1 (by assumption) | exact below_step hHeld.1 (below_alloc _ _) | exact below_step hbk (below_alloc _ _) | exact ((hbk.setCell (p := ⟨w1.heap.size, 0, none⟩) (Nat.le_refl _) _).setCell (p := ⟨w1.heap.size, 1, none⟩) (Nat.le_refl _) _).setCell (p := ⟨w1.heap.size, 2, none⟩) (Nat.le_refl _) _))
        refine take_at 0 17 (v := ?_) rfl rfl (by kernel_rfl) (by kernel_rfl) (by kernel_rfl) (fun _ _ _ h => h) (by rfl) ?y0d (by assumption) ?r0d
        case y0d =>
          intro w hSw
          try dsimp only at hSw
          go_simp
          try with_reducible rfl
        simp only [List.set_cons_zero, List.set_cons_succ]
        refine take_at 1 18 (v := ?_) rfl rfl (by kernel_rfl) (by kernel_rfl) (by kernel_rfl) (fun _ _ _ h => h) (by rfl) ?y1d (by assumption) ?r1d
        case y1d =>
          intro w hSw
          try dsimp only at hSw
          go_simp
          try with_reducible rfl
        simp only [List.set_cons_zero, List.set_cons_succ]
        refine take_at 2 19 (v := ?_) rfl rfl (by kernel_rfl) (by kernel_rfl) (by kernel_rfl) (fun _ _ _ h => h) (by rfl) ?y2d (by assumption) ?r2d
        case y2d =>
          intro w hSw
          try dsimp only at hSw
          go_simp
          try with_reducible rfl
        simp only [List.set_cons_zero, List.set_cons_succ]
        refine take_at 3 20 (v := ?_) rfl rfl (by kernel_rfl) (by kernel_rfl) (by kernel_rfl) (fun _ _ _ h => h) (by rfl) ?y3d (by assumption) ?r3d
        case y3d =>
          intro w hSw
          try dsimp only at hSw
          go_simp
          try with_reducible rfl
        simp only [List.set_cons_zero, List.set_cons_succ]
        refine take_at 4 21 (v := ?_) rfl rfl (by kernel_rfl) (by kernel_rfl) (by kernel_rfl) (fun _ _ _ h => h) (by rfl) ?y4d (by assumption) ?r4d
        case y4d =>
          intro w hSw
          try dsimp only at hSw
          go_simp
          try with_reducible rfl
        simp only [List.set_cons_zero, List.set_cons_succ]
        refine take_at 5 22 (v := ?_) rfl rfl (by kernel_rfl) (by kernel_rfl) (by kernel_rfl) (fun _ _ _ h => h) (by rfl) ?y5d (by assumption) ?r5d
        case y5d =>
          intro w hSw
          try dsimp only at hSw
          go_simp
          try with_reducible rfl
        simp only [List.set_cons_zero, List.set_cons_succ]
        refine take_at 7 24 (v := ?_) rfl rfl (by kernel_rfl) (by kernel_rfl) (by kernel_rfl) (fun _ _ _ h => h) (by rfl) ?y7d (by assumption) ?r7d
        case y7d =>
          intro w hSw
          try dsimp only at hSw
          go_simp
          try with_reducible rfl
        simp only [List.set_cons_zero, List.set_cons_succ]
        refine take_at 8 25 (v := ?_) rfl rfl (by kernel_rfl) (by kernel_rfl) (by kernel_rfl) (fun _ _ _ h => h) (by rfl) ?y8d (by assumption) ?r8d
        case y8d =>
          intro w hSw
          try dsimp only at hSw
          go_simp
          try with_reducible rfl
        simp only [List.set_cons_zero, List.set_cons_succ]
        refine take_at 9 26 (v := ?_) rfl rfl (by kernel_rfl) (by kernel_rfl) (by kernel_rfl) (fun _ _ _ h => h) (by rfl) ?y9d (by assumption) ?r9d
        case y9d =>
          intro w hSw
          try dsimp only at hSw
          go_simp
          try with_reducible rfl
        simp only [List.set_cons_zero, List.set_cons_succ]
        refine run_at2 6 11 rfl rfl (by kernel_rfl) (by rfl) (by rfl) (fun K hK => ?_) (fun K hK => ?_)
        · go_simp
          refine (C2.out _ (by exact hHeld.1)).mono ?_
          rintro e w' ⟨v2, c2, rfl, hS2, hb2⟩
          have hbk := below_step hHeld.1 hb2
          try (have hx2 : w'.heap[w1.heap.size]? = some (.cells #[.string ⟨#[]⟩, .string ⟨#[]⟩, .slice none 0 0] 86 (0, 0)) := (hb2.block _ (by simp)).trans (heap_alloc_new w1.drew _); obtain ⟨⟨t0, f0⟩, ⟨t1, f1⟩, ⟨t2, f2⟩, hx6⟩ := store3 hx2 (.string k0) (.string k2) (.slice v2 (commaL k1).length c2))
          go_wp2_with fail
          refine hK.out _ _ ?_ (fun hHeld => ?_)
          · (exact HS.out _ (by first | assumption | exact hHeld.1 | exact below_step hHeld.1 (by assumption) | exact below_step hHeld.1 (below_alloc _ _) | exact below_step hbk (below_alloc _ _) | exact ((hbk.setCell (p := ⟨w1.heap.size, 0, none⟩) (Nat.le_refl _) _).setCell (p := ⟨w1.heap.size, 1, none⟩) (Nat.le_refl _) _).setCell (p := ⟨w1.heap.size, 2, none⟩) (Nat.le_refl _) _))
          clear hK K
          try simp only [Act.put, List.setIfInBounds_toArray, List.set_cons_zero, List.set_cons_succ]
          refine take_at 10 27 (v := ?_) rfl rfl (by kernel_rfl) (by kernel_rfl) (by kernel_rfl) (fun _ _ _ h => h) (by rfl) ?y10da (by assumption) ?r10da
          case y10da =>
            intro w hSw
            try dsimp only at hSw
            go_simp
            try with_reducible rfl
          simp only [List.set_cons_zero, List.set_cons_succ]
          refine run_at 11 rfl (by kernel_rfl) (by rfl) (fun K hK => ?_)
          go_simp
          refine hK.out _ _ ?_ (fun hHeld => ?_)
          · (exact HS.out _ (by first | assumption | exact hHeld.1 | exact below_step hHeld.1 (by assumption) | exact below_step hHeld.1 (below_alloc _ _) | exact below_step hbk (below_alloc _ _) | exact ((hbk.setCell (p := ⟨w1.heap.size, 0, none⟩) (Nat.le_refl _) _).setCell (p := ⟨w1.heap.size, 1, none⟩) (Nat.le_refl _) _).setCell (p := ⟨w1.heap.size, 2, none⟩) (Nat.le_refl _) _))
          clear hK K
          try simp only [Act.put, List.setIfInBounds_toArray, List.set_cons_zero, List.set_cons_succ]
          refine run_at 12 rfl (by kernel_rfl) (by rfl) (fun K hK => ?_)
          go_simp
          refine hK.out _ _ ?_ (fun hHeld => ?_)
          · (exact HS.out _ (by first | assumption | exact hHeld.1 | exact below_step hHeld.1 (by assumption) | exact below_step hHeld.1 (below_alloc _ _) | exact below_step hbk (below_alloc _ _) | exact ((hbk.setCell (p := ⟨w1.heap.size, 0, none⟩) (Nat.le_refl _) _).setCell (p := ⟨w1.heap.size, 1, none⟩) (Nat.le_refl _) _).setCell (p := ⟨w1.heap.size, 2, none⟩) (Nat.le_refl _) _))
          clear hK K
          try simp only [Act.put, List.setIfInBounds_toArray, List.set_cons_zero, List.set_cons_succ]
          refine wpAnyH_done (by kernel_rfl) ?_ _
          have hx9 := heap_alloc_new w' (.cells #[.string k0, .string k2, .slice v2 (commaL k1).length c2] 86)
          have hS9 := (Strs.mono hS2 (show w1.heap.size ≤ _ by simp)).below (below_alloc w' (.cells #[.string k0, .string k2, .slice v2 (commaL k1).length c2] 86))
          have hb9 := hHeld.1
          clear hHeld
          go_wp2_with fail
          go_meet
          case rel => exact ⟨_, v2, c2, rfl, by have := hb2.size; simpa using this, hx9, hS9, hb9⟩
        · go_simp
          refine hK.out _ _ ?_ (fun hHeld => ?_)
          · (exact HS.out _ (by first | assumption | exact hHeld.1 | exact below_step hHeld.1 (by assumption) | exact below_step hHeld.1 (below_alloc _ _) | exact below_step hbk (below_alloc _ _) | exact ((hbk.setCell (p := ⟨w1.heap.size, 0, none⟩) (Nat.le_refl _) _).setCell (p := ⟨w1.heap.size, 1, none⟩) (Nat.le_refl _) _).setCell (p := ⟨w1.heap.size, 2, none⟩) (Nat.le_refl _) _))
          clear hK K
          try simp only [Act.put, List.setIfInBounds_toArray, List.set_cons_zero, List.set_cons_succ]
          refine run_at 6 rfl (by kernel_rfl) (by rfl) (fun K hK => ?_)
          go_simp
          refine (C2.out _ (by exact hHeld.1)).mono ?_
          rintro e w' ⟨v2, c2, rfl, hS2, hb2⟩
          have hbk := below_step hHeld.1 hb2
          try (have hx2 : w'.heap[w1.heap.size]? = some (.cells #[.string ⟨#[]⟩, .string ⟨#[]⟩, .slice none 0 0] 86 (0, 0)) := (hb2.block _ (by simp)).trans (heap_alloc_new w1.drew _); obtain ⟨⟨t0, f0⟩, ⟨t1, f1⟩, ⟨t2, f2⟩, hx6⟩ := store3 hx2 (.string k0) (.string k2) (.slice v2 (commaL k1).length c2))
          go_wp2_with fail
          refine hK.out _ _ ?_ (fun hHeld => ?_)
          · (exact HS.out _ (by first | assumption | exact hHeld.1 | exact below_step hHeld.1 (by assumption) | exact below_step hHeld.1 (below_alloc _ _) | exact below_step hbk (below_alloc _ _) | exact ((hbk.setCell (p := ⟨w1.heap.size, 0, none⟩) (Nat.le_refl _) _).setCell (p := ⟨w1.heap.size, 1, none⟩) (Nat.le_refl _) _).setCell (p := ⟨w1.heap.size, 2, none⟩) (Nat.le_refl _) _))
          clear hK K
          try simp only [Act.put, List.setIfInBounds_toArray, List.set_cons_zero, List.set_cons_succ]
          refine take_at 10 27 (v := ?_) rfl rfl (by kernel_rfl) (by kernel_rfl) (by kernel_rfl) (fun _ _ _ h => h) (by rfl) ?y10db (by assumption) ?r10db
          case y10db =>
            intro w hSw
            try dsimp only at hSw
            go_simp
            try with_reducible rfl
          simp only [List.set_cons_zero, List.set_cons_succ]
          refine run_at 12 rfl (by kernel_rfl) (by rfl) (fun K hK => ?_)
          go_simp
          refine hK.out _ _ ?_ (fun hHeld => ?_)
          · (exact HS.out _ (by first | assumption | exact hHeld.1 | exact below_step hHeld.1 (by assumption) | exact below_step hHeld.1 (below_alloc _ _) | exact below_step hbk (below_alloc _ _) | exact ((hbk.setCell (p := ⟨w1.heap.size, 0, none⟩) (Nat.le_refl _) _).setCell (p := ⟨w1.heap.size, 1, none⟩) (Nat.le_refl _) _).setCell (p := ⟨w1.heap.size, 2, none⟩) (Nat.le_refl _) _))
          clear hK K
          try simp only [Act.put, List.setIfInBounds_toArray, List.set_cons_zero, List.set_cons_succ]
          refine wpAnyH_done (by kernel_rfl) ?_ _
          have hS9 := (Strs.mono hS2 (show w1.heap.size ≤ _ by simp)).row (gb_trans (gb_setCell w' w1.heap.size 0 (.string k0)) (gb_trans (gb_setCell _ w1.heap.size 1 (.string k2)) (gb_setCell _ w1.heap.size 2 (.slice v2 (commaL k1).length c2)))) (fun r hr => ⟨_, _, _, by cases hr; exact hx2, by decide⟩)
          have hb9 := hHeld.1
          clear hHeld
          go_wp2_with fail
          go_meet
          case rel => exact ⟨_, v2, c2, rfl, by simp, hx6, hS9, hb9⟩
      case rest =>
        obtain ⟨X, v2, c2, rfl, hXw, hx, hS2, hbc⟩ := hcut
        obtain ⟨vo, ho1, hP1⟩ := HO1.out
        have ho := (hbc.block O (lt_of_heap ho1)).trans ho1
        have hP := hP1.below hbc
        obtain ⟨pvs1, -, hrow1, -⟩ := hP1
        have hvo : ∀ r, vo.ownBlock = some r → base ≤ r ∧ r < w1.heap.size := fun r hr => by
          obtain ⟨h1, cur, h2⟩ := own_block hrow1 r hr
          exact ⟨h1, lt_of_heap h2⟩
        have Hvo := Lib.hid hvo
        clear hrow1 hvo ho1
        have hbOc := hbO.trans (hbc.mono (by omega))
        have C3 := Lib.hid (fun w' (h : Strs w' w1.heap.size (.slice v2 (commaL k1).length c2) (commaL k1)) => contains_calls w1.heap.size _ (commaL k1) ⟨#[]⟩ w' h)
        have x0 : wc.cell? ⟨X, 0, none⟩ = some (.string k0) := by rw [cell_of_row wc _ _ _ _ _ hx]; rfl
        have x1 : wc.cell? ⟨X, 1, none⟩ = some (.string k2) := by rw [cell_of_row wc _ _ _ _ _ hx]; rfl
        have x2 : wc.cell? ⟨X, 2, none⟩ = some (.slice v2 (commaL k1).length c2) := by rw [cell_of_row wc _ _ _ _ _ hx]; rfl
        have o0 : wc.cell? ⟨O, 0, none⟩ = some vo := by rw [cell_of_row wc _ _ _ _ _ ho]; rfl
        obtain ⟨pvs, hpv, hrow, hposs⟩ := hP
        have hsc := hbc.size
        have hcl := commaL_le k1
        have hpos' : ∀ (i : Nat) (x : Value) (p' : PD), (pvs ++ [Value.slice v2 (commaL k1).length c2])[i]? = some x → (L ++ [⟨k0, k2, commaL k1⟩])[i]? = some p' → Strs wc base x p'.pos := by
          intro i x p' hx hp
          by_cases hi : i < L.length
          · rw [List.getElem?_append_left (by omega)] at hx
            rw [List.getElem?_append_left hi] at hp
            exact hposs i x p' hx hp
          · have hi2 : i = L.length := by have := (List.getElem?_eq_some_iff.1 hp).1; simp at this; omega
            subst hi2
            rw [List.getElem?_append_right (by omega), hpv] at hx
            rw [List.getElem?_append_right (by omega)] at hp
            simp at hx hp
            subst hx hp
            exact hS2.mono (by omega)
        have Hpos := Lib.hid hpos'
        have Hx := Lib.hid hx
        have Ho := Lib.hid ho
        have HS2 := Lib.hid hS2
        have hXl := lt_of_heap hx
        have hOl := lt_of_heap ho
        clear hposs hpos' hx ho hS2 HS C2 y0 y1 y2 hb0 HO1 hbO hbc
        go_wp2_with (at_builtin; refine wpList_append_own _ rfl _ _ 26 rfl base 86 j0 (.agg #[.string ⟨#[]⟩, .string ⟨#[]⟩, .slice none 0 0]) 3 56 Tryz.underlying26 hj hy0 hy1 hy2 rfl (by decide) _ _ _ rfl (hrow.alloc _) ⟨wc.heap.size, 0, none⟩ 1 1 [.string k0, .string k2, .slice v2 (commaL k1).length c2] rfl rfl ?c1 ?c2 ?c3 ?c4 ?c5 ?_)
        case c1 => exact cell_three_new _ _ _ _ _
        case c2 => simp [Value.oneCell']
        case c3 => unfold maxLen; omega
        case c4 => omega
        case c5 => simp; omega
        intro v' w7 hown7 hgrow _
        have ho7 : w7.heap[O]? = some (.cells #[vo] 26 (0, 0)) := (hgrow.block O (by simp; omega) fun e => by have := (Hvo.out O e.symm).1; omega).trans ((heap_alloc_old wc _ hOl).trans Ho.out)
        have hx7 : w7.heap[X]? = some (.cells #[.string k0, .string k2, .slice v2 (commaL k1).length c2] 86 (0, 0)) := (hgrow.block X (by simp; omega) fun e => by have := (Hvo.out X e.symm).2; omega).trans ((heap_alloc_old wc _ hXl).trans Hx.out)
        have o7 : w7.cell? ⟨O, 0, none⟩ = some vo := by rw [cell_of_row w7 _ _ _ _ _ ho7]; rfl
        have f7 : w7.frozen? ⟨O, 0, none⟩ = false := by simp [World.frozen?, ho7]
        have hXO : X ≠ O := by omega
        obtain ⟨oa, oc, hsh⟩ := owns_shape hown7
        subst hsh
        obtain ⟨W8, hW8⟩ : ∃ W8, W8 = w7.setCell ⟨O, 0, none⟩ (.slice oa (L.length + 1) oc) := ⟨_, rfl⟩
        have hg8 : w7.grownBy W8 (some O) := by rw [hW8]; exact gb_setCell _ _ _ _
        have hO8 : W8.heap[O]? = some (.cells #[.slice oa (L.length + 1) oc] 26 (0, 0)) := by rw [hW8]; simp [World.setCell, Array.getElem?_modify, ho7]
        have hx8 := (hg8.block X (lt_of_heap hx7) (by simpa using hXO)).trans hx7
        have y8 : W8.cell? ⟨X, 2, none⟩ = some (.slice v2 (commaL k1).length c2) := by rw [cell_of_row W8 _ _ _ _ _ hx8]; rfl
        have own8 := World.ownsRow.kept hown7 hg8 (.inr fun e => by have := (own_block hown7 O e).1; omega)
        have hst : ∀ (x : Value) (ks : List ByteArray) (lo : Nat), Strs wc lo x ks → Strs W8 lo x ks := fun x ks lo h => ((h.below (below_alloc wc _)).row hgrow fun r hr => by
          obtain ⟨_, cur, h'⟩ := own_block (World.ownsRow.alloc hrow _) r hr
          exact ⟨cur, _, _, h', by decide⟩).row hg8 fun r hr => ⟨_, _, _, by cases hr; exact ho7, by decide⟩
        have HO8 : Hid (Outs W8 base O (L ++ [⟨k0, k2, commaL k1⟩])) := Lib.hid ⟨_, hO8, pvs ++ [Value.slice v2 (commaL k1).length c2], by simp [hpv], by rw [plRows_snoc hpv]; simpa using own8, fun i x p hx hp => hst x p.pos base (Hpos.out i x p hx hp)⟩
        have hS8 := hst _ _ _ HS2.out
        have hb7 : Below O w w7 := (hbOc.trans ((below_alloc wc (.cells #[.string k0, .string k2, .slice v2 (commaL k1).length c2] 86)).mono (by omega))).grown hgrow (by simp; omega) fun r hr => by have := (Hvo.out r hr).1; omega
        have hb8 := hb7.setCell (p := ⟨O, 0, none⟩) (Nat.le_refl O) (.slice oa (L.length + 1) oc)
        rw [← hW8] at hb8
        have C4 := Lib.hid (C3.out W8 hS8)
        have HW8 := Lib.hid hW8
        clear ho7 hx7 hg8 hO8 hx8 own8 hst hS8 hb7 C3 hW8 hown7 hgrow hrow Hpos Hvo hbOc
        go_upto_region 6 with fail
        rw [← HW8.out]
        clear HW8 o7 f7
        go_wp2_with fail
        refine C4.out.mono ?_
        rintro e w9 ⟨rfl, rfl⟩
        cases hh : hasS (commaL k1) ⟨#[]⟩
        · have hbv := Lib.hid (show b = true by have h := HB.out; rw [hh] at h; exact h)
          go_wp2_with fail
          go_ret
          exact ⟨ret_bool hbv.out.symm, by rw [HR.out]; exact HO8.out, hb8⟩
        · have hbv := Lib.hid (show b = false by have h := HB.out; rw [hh] at h; exact h)
          go_wp2_with fail
          go_ret
          exact ⟨ret_bool hbv.out.symm, by rw [HR.out]; exact HO8.out, hb8⟩
    · have hb : b = false := by rw [HB.out, he]; rfl
      have hr : R = L := by rw [HT.out, he]; rfl
      subst hb hr
      clear HB HT C2 y1 y2
      go_wp2_with fail
      go_ret
      exact ⟨rfl, HO1.out, hbO⟩
end Go.Proofs.YtmjkbmkjnbpgeaaGreatDoor
