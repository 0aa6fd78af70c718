/- The reference's IdleOf; slices.Equal at fixtures. -/
import Derived.Test.YthmdhokmgicnmaaGreatDoorFxl
import Derived.Test.YthmdhokmgicnmaaGreatDoorFxn
import Derived.Maps.AppendAt
namespace Go.Proofs.YthmdhokmgicnmaaGreatDoor
open Go.RowKit

/-- Has a club no game? -/
def idleB (fs : List FD) (week : Int) (c : ByteArray) : Bool := (fs.filter (meets week c)).isEmpty
def idlesL (fs : List FD) (week : Int) : List ByteArray := (clubsL fs).filter (idleB fs week)
set_option maxRecDepth 100000 in
set_option maxHeartbeats 4000000 in
theorem idleOf_calls (lo : Nat) (v : Value) (fs : List FD) (week : Int) (w : World) (hF : Fxs w lo v fs) (hn : fs.length ≤ 10000) :
    Calls Tryz.prog 42 #[v, .int .i64 week] w (MadeS (compactL (sortL (idlesL fs week))) w) := by
  obtain ⟨i0, hi, hz0, hz1, hz2⟩ := info_parts info_str
  have HF := Lib.hid hF
  obtain ⟨fa, fc, rfl⟩ := fxs_shape hF
  have HG := Lib.hid (show ∀ (c : ByteArray) (w3 : World), Below w.heap.size w w3 → Calls Tryz.prog 41 #[.slice fa fs.length fc, .string c, .int .i64 week] w3 (MadeFx (fs.filter (meets week c)) w3) from fun c w3 hb => gamesOf_calls lo _ fs c week w3 (HF.out.below hb) hn)
  have HLn : ∀ k, (((clubsL (fs.take k)).filter (idleB fs week)).length ≤ 2 * k) := fun k => by
    have h1 := List.length_filter_le (idleB fs week) (clubsL (fs.take k))
    rw [clubsL_length] at h1
    have h2 := List.length_take_le k fs
    omega
  have HLN := Lib.hid HLn
  clear HLn
  rcases fxs_at hF with ⟨h1, h2⟩ | ⟨g, off, cap, h1, hlo, hg, hn1, hcell⟩
  · subst h2
    obtain ⟨rfl, rfl⟩ : fa = none ∧ fc = 0 := by simpa using h1
    have HL := Lib.hid (show compactL (sortL (idlesL [] week)) = [] by simp [idlesL, clubsL, sortL]; rfl)
    have C1 := Lib.hid (sortS_calls w.heap.size (.slice none 0 0) [] w (World.ownsRow_nil _ _ _ _) (by simp))
    clear hF h1
    rw [HL.out]
    go_enter Tryz.func42, Tryz.ntmps42
    go_wp2_with fail
    refine wp_loop_rounds 1 ?_
    rw [rounds_succ]
    go_wp2_with fail
    refine C1.out.mono ?_
    rintro e w1 ⟨rfl, hown, hg⟩
    have hb1 : Below w.heap.size w w1 := (Below.refl w.heap.size w).grown hg (Nat.le_refl _) fun r hr => by simp [Value.ownBlock] at hr
    rw [show sortL [] = [] by simp [sortL]] at hown
    have C2 := Lib.hid (compactS_calls w.heap.size _ _ w1 hown (by simp))
    clear C1 hg hown
    go_wp2_with fail
    refine C2.out.mono ?_
    rintro e w2 ⟨v2, rfl, hown2, hg2, _⟩
    have hb2 : Below w.heap.size w w2 := hb1.grown hg2 hb1.size fun r hr => by simp [Value.ownBlock] at hr
    have Hown2 := Lib.hid hown2
    clear C2 hg2 hown2
    go_wp2_with fail
    go_ret
    exact ⟨_, Hown2.out, rfl, hb2⟩
  · simp only [Value.slice.injEq, true_and] at h1
    obtain ⟨rfl, rfl⟩ := h1
    have Hc := Lib.hid hcell
    clear hF hcell
    go_enter Tryz.func42, Tryz.ntmps42
    go_wp2_with fail
    go_loopw [5, 12] (fun out i wr => ∃ k : Nat, k ≤ fs.length ∧ i = .int .i64 k ∧ OwnS wr w.heap.size out ((clubsL (fs.take k)).filter (idleB fs week)) ∧ Below w.heap.size w wr) (fun _ i _ => fs.length - (intOf i).toNat)
    case atStart => exact ⟨0, Nat.zero_le _, rfl, World.ownsRow_nil _ _ _ _, Below.refl _ _⟩
    case round =>
      obtain ⟨k, hk, rfl, hown, hb⟩ := hrel
      by_cases hlt : k < fs.length
      · obtain ⟨f, hf⟩ : ∃ f, fs[k]? = some f := ⟨fs[k], List.getElem?_eq_getElem hlt⟩
        have Hs := Lib.hid (show (clubsL (fs.take (k + 1))).filter (idleB fs week) = (clubsL (fs.take k)).filter (idleB fs week) ++ [f.home, f.away].filter (idleB fs week) by rw [clubsL_snoc hf, List.filter_append])
        obtain ⟨q0, q1, q2, q3⟩ := Hc.out k f hf
        have g0 := below_cell hb q0
        have g1 := below_cell hb q1
        have g2 := below_cell hb q2
        have g3 := below_cell hb q3
        have hle := HLN.out k
        generalize (clubsL (fs.take k)).filter (idleB fs week) = L at Hs hown hle
        obtain ⟨W, hW⟩ : ∃ W, W = (wr.alloc (.cells #[.int .i64 f.week, .int .i64 f.moment, .string f.home, .string f.away] 72)).alloc (.cells #[.string f.home, .string f.away] 9) := ⟨_, rfl⟩
        have hwW : Below wr.heap.size wr W := by rw [hW]; exact below2 wr _ _
        have y0 : W.cell? ⟨wr.heap.size + 1, 0, none⟩ = some (.string f.home) := by rw [hW, World.cell?_alloc_at _ _ _ _ (by simp)]; rfl
        have y1 : W.cell? ⟨wr.heap.size + 1, 1, none⟩ = some (.string f.away) := by rw [hW, World.cell?_alloc_at _ _ _ _ (by simp)]; rfl
        have hownW : OwnS W w.heap.size _ L := World.ownsRow.kept hown (gb_below hwW none) (by cases hv : Value.ownBlock _ <;> simp)
        have hbW := below_step hb hwW
        have hro : ∀ r, u5.ownBlock = some r → r < wr.heap.size := fun r hr => by obtain ⟨_, cur, h⟩ := own_block hown r hr; exact lt_of_heap h
        clear hf q0 q1 q2 q3 hown
        go_upto_region 6 with fail
        rw [← hW]
        obtain ⟨Y, hY⟩ : ∃ Y, Y = wr.heap.size + 1 := ⟨_, rfl⟩
        rw [← hY] at y0 y1 ⊢
        have hoY0 : u5.ownBlock ≠ some Y := fun e => by have := hro _ e; omega
        clear hW hro hwW hY
        go_loopw [5, 22] (fun out i wi => ∃ t : Nat, t ≤ 2 ∧ i = .int .i64 t ∧ OwnS wi w.heap.size out (L ++ ([f.home, f.away].take t).filter (idleB fs week)) ∧ out.ownBlock ≠ some Y ∧ Below w.heap.size w wi ∧ wi.cell? ⟨Y, 0, none⟩ = some (.string f.home) ∧ wi.cell? ⟨Y, 1, none⟩ = some (.string f.away)) (fun _ i _ => 2 - (intOf i).toNat)
        case atStart => exact ⟨0, by omega, rfl, by simpa using hownW, hoY0, hbW, y0, y1⟩
        case round =>
          clear hownW y0 y1 hoY0 hbW
          obtain ⟨t, ht, rfl, hownI, hoY, hbi, y0, y1⟩ := hrel
          by_cases ht0 : t = 0
          · subst ht0
            have HQ := Lib.hid (show ([f.home, f.away].take (0 + 1)).filter (idleB fs week) = ([f.home, f.away].take 0).filter (idleB fs week) ++ (if idleB fs week f.home then [f.home] else []) by simp [List.filter_cons]; try (cases idleB fs week f.home <;> cases idleB fs week f.away <;> rfl))
            go_wp2_with fail
            refine (HG.out f.home _ hbi).mono ?_
            rintro e w2 ⟨vg, hFg, rfl, hb2⟩
            obtain ⟨ga, gc, rfl⟩ := fxs_shape hFg
            have hown2 : OwnS w2 w.heap.size _ _ := World.ownsRow.kept hownI (gb_below hb2 none) (by cases hv : Value.ownBlock _ <;> simp)
            have hbi2 := below_step hbi hb2
            have z0 := below_cell hb2 y0
            have z1 := below_cell hb2 y1
            have hYl : Y < w2.heap.size := by have := World.block_lt_of_cell? _ _ z0; exact this
            have hI := Lib.hid (show idleB fs week f.home = (fs.filter (meets week f.home)).isEmpty from rfl)
            generalize fs.filter (meets week f.home) = GG at hI hFg
            clear hFg hb2 hownI hbi y0 y1
            cases hq : idleB fs week f.home
            · have Hq := Lib.hid (show ([f.home, f.away].take (0 + 1)).filter (idleB fs week) = ([f.home, f.away].take 0).filter (idleB fs week) by rw [HQ.out, hq]; simp)
              have hg0 : GG.length ≠ 0 := by
                have := hI.out; rw [hq] at this
                intro e
                rw [List.eq_nil_of_length_eq_zero e] at this
                cases this
              have hg1 : ((GG.length : Int) == 0) = false := by rw [beq_eq_false_iff_ne]; omega
              clear hq
              go_wp2_with fail
              go_roundw
              case rel => exact ⟨0 + 1, by omega, by go_num, by rw [Hq.out]; exact hown2, hoY, hbi2, z0, z1⟩
              case measure => simp [intOf]
            · have Hq := Lib.hid (show ([f.home, f.away].take (0 + 1)).filter (idleB fs week) = ([f.home, f.away].take 0).filter (idleB fs week) ++ [f.home] by rw [HQ.out, hq]; simp)
              have hg0 : GG.length = 0 := by
                have := hI.out; rw [hq] at this
                cases GG with
                | nil => rfl
                | cons x xs => cases this
              have hle2 : (([f.home, f.away].take 0).filter (idleB fs week)).length ≤ 2 := Nat.le_trans (List.length_filter_le _ _) (by simp)
              generalize ([f.home, f.away].take 0).filter (idleB fs week) = M at Hq hown2 hle2
              have hbw2 := hbi2.size
              clear hq
              go_wp2_with (at_builtin; refine wpList_append_own_at _ rfl _ _ 35 rfl w.heap.size 9 i0 (.string ⟨#[]⟩) 1 16 Tryz.underlying35 hi hz0 hz1 hz2 rfl (by decide) _ _ _ rfl (World.ownsRow.alloc hown2 _) ⟨w2.heap.size, 0, none⟩ 1 1 [.string f.home] rfl rfl ?c1 ?c2 ?c3 ?c4 ?c5 ?_)
              case c1 => exact cell_one_new _ _ _
              case c2 => simp [Value.oneCell']
              case c3 => unfold maxLen; simp; omega
              case c4 => simp; omega
              case c5 => simp; omega
              intro v' w6 hown6 hgrow _ hloc
              have hown6' : OwnS w6 w.heap.size v' (L ++ (M ++ [f.home])) := by unfold OwnS; simpa [Nat.add_assoc] using hown6
              have hbi6 : Below w.heap.size w w6 := (below_step hbi2 (below_alloc w2 _)).grown hgrow (by simp; omega) fun r hr => (own_block hown2 r hr).1
              have hoY6 : v'.ownBlock ≠ some Y := by
                rcases hloc with h | h
                · rw [h]; exact hoY
                · rw [h]; intro e; have := Option.some.inj e; first | omega | (simp at this; omega)
              have u0 := hgrow.cell (below_cell (below_alloc w2 (.cells #[.string f.home] 9)) z0) (fun e => hoY e.symm)
              have u1 := hgrow.cell (below_cell (below_alloc w2 (.cells #[.string f.home] 9)) z1) (fun e => hoY e.symm)
              clear hown6 hgrow hown2 hbi2 z0 z1 hloc
              go_wp2_with fail
              go_roundw
              case rel => exact ⟨0 + 1, by omega, by go_num, by rw [Hq.out]; exact hown6', hoY6, hbi6, u0, u1⟩
              case measure => simp [intOf]
          · by_cases ht1 : t = 1
            · subst ht1
              have HQ := Lib.hid (show ([f.home, f.away].take (1 + 1)).filter (idleB fs week) = ([f.home, f.away].take 1).filter (idleB fs week) ++ (if idleB fs week f.away then [f.away] else []) by simp [List.filter_cons]; try (cases idleB fs week f.home <;> cases idleB fs week f.away <;> rfl))
              go_wp2_with fail
              refine (HG.out f.away _ hbi).mono ?_
              rintro e w2 ⟨vg, hFg, rfl, hb2⟩
              obtain ⟨ga, gc, rfl⟩ := fxs_shape hFg
              have hown2 : OwnS w2 w.heap.size _ _ := World.ownsRow.kept hownI (gb_below hb2 none) (by cases hv : Value.ownBlock _ <;> simp)
              have hbi2 := below_step hbi hb2
              have z0 := below_cell hb2 y0
              have z1 := below_cell hb2 y1
              have hYl : Y < w2.heap.size := by have := World.block_lt_of_cell? _ _ z0; exact this
              have hI := Lib.hid (show idleB fs week f.away = (fs.filter (meets week f.away)).isEmpty from rfl)
              generalize fs.filter (meets week f.away) = GG at hI hFg
              clear hFg hb2 hownI hbi y0 y1
              cases hq : idleB fs week f.away
              · have Hq := Lib.hid (show ([f.home, f.away].take (1 + 1)).filter (idleB fs week) = ([f.home, f.away].take 1).filter (idleB fs week) by rw [HQ.out, hq]; simp)
                have hg0 : GG.length ≠ 0 := by
                  have := hI.out; rw [hq] at this
                  intro e
                  rw [List.eq_nil_of_length_eq_zero e] at this
                  cases this
                have hg1 : ((GG.length : Int) == 0) = false := by rw [beq_eq_false_iff_ne]; omega
                clear hq
                go_wp2_with fail
                go_roundw
                case rel => exact ⟨1 + 1, by omega, by go_num, by rw [Hq.out]; exact hown2, hoY, hbi2, z0, z1⟩
                case measure => simp [intOf]
              · have Hq := Lib.hid (show ([f.home, f.away].take (1 + 1)).filter (idleB fs week) = ([f.home, f.away].take 1).filter (idleB fs week) ++ [f.away] by rw [HQ.out, hq]; simp)
                have hg0 : GG.length = 0 := by
                  have := hI.out; rw [hq] at this
                  cases GG with
                  | nil => rfl
                  | cons x xs => cases this
                have hle2 : (([f.home, f.away].take 1).filter (idleB fs week)).length ≤ 2 := Nat.le_trans (List.length_filter_le _ _) (by simp)
                generalize ([f.home, f.away].take 1).filter (idleB fs week) = M at Hq hown2 hle2
                have hbw2 := hbi2.size
                clear hq
                go_wp2_with (at_builtin; refine wpList_append_own_at _ rfl _ _ 35 rfl w.heap.size 9 i0 (.string ⟨#[]⟩) 1 16 Tryz.underlying35 hi hz0 hz1 hz2 rfl (by decide) _ _ _ rfl (World.ownsRow.alloc hown2 _) ⟨w2.heap.size, 0, none⟩ 1 1 [.string f.away] rfl rfl ?c1 ?c2 ?c3 ?c4 ?c5 ?_)
                case c1 => exact cell_one_new _ _ _
                case c2 => simp [Value.oneCell']
                case c3 => unfold maxLen; simp; omega
                case c4 => simp; omega
                case c5 => simp; omega
                intro v' w6 hown6 hgrow _ hloc
                have hown6' : OwnS w6 w.heap.size v' (L ++ (M ++ [f.away])) := by unfold OwnS; simpa [Nat.add_assoc] using hown6
                have hbi6 : Below w.heap.size w w6 := (below_step hbi2 (below_alloc w2 _)).grown hgrow (by simp; omega) fun r hr => (own_block hown2 r hr).1
                have hoY6 : v'.ownBlock ≠ some Y := by
                  rcases hloc with h | h
                  · rw [h]; exact hoY
                  · rw [h]; intro e; have := Option.some.inj e; first | omega | (simp at this; omega)
                have u0 := hgrow.cell (below_cell (below_alloc w2 (.cells #[.string f.away] 9)) z0) (fun e => hoY e.symm)
                have u1 := hgrow.cell (below_cell (below_alloc w2 (.cells #[.string f.away] 9)) z1) (fun e => hoY e.symm)
                clear hown6 hgrow hown2 hbi2 z0 z1 hloc
                go_wp2_with fail
                go_roundw
                case rel => exact ⟨1 + 1, by omega, by go_num, by rw [Hq.out]; exact hown6', hoY6, hbi6, u0, u1⟩
                case measure => simp [intOf]
            · obtain rfl : t = 2 := by omega
              have hown2 := hownI
              rw [show [f.home, f.away].take 2 = [f.home, f.away] from rfl] at hown2
              clear hownI
              go_wp2_with fail
              go_roundw
              case rel => exact ⟨k + 1, by omega, by go_num, by rw [Hs.out]; exact hown2, hbi⟩
              case measure => simp [intOf]; omega
      · obtain rfl : k = fs.length := by omega
        have hT := List.take_length (l := fs)
        rw [hT] at hown
        have hl1 := HLN.out fs.length
        rw [hT] at hl1
        have HI := Lib.hid (show idlesL fs week = (clubsL fs).filter (idleB fs week) from rfl)
        rw [← HI.out] at hown hl1
        have Hown := Lib.hid hown
        have C1 := Lib.hid (sortS_calls w.heap.size _ _ wr hown (by omega))
        obtain ⟨la, lb, lcc, rfl⟩ : ∃ a n c, u5 = .slice a n c := by obtain ⟨a, c, h⟩ := owns_shape hown; exact ⟨_, _, _, h⟩
        clear hown hT
        go_wp2_with fail
        refine C1.out.mono ?_
        rintro e w3 ⟨rfl, hown3, hg3⟩
        have hb3 : Below w.heap.size w w3 := hb.grown hg3 hb.size fun r hr => (own_block Hown.out r hr).1
        have C2 := Lib.hid (compactS_calls w.heap.size _ _ w3 hown3 (by rw [sortL_length]; omega))
        have Hr := Lib.hid (own_block hown3)
        clear C1 hg3 hown3
        go_wp2_with fail
        refine C2.out.mono ?_
        rintro e w4 ⟨v4, rfl, hown4, hg4, _⟩
        have hb4 : Below w.heap.size w w4 := hb3.grown hg4 hb3.size fun r hr => (Hr.out r hr).1
        have Hown4 := Lib.hid hown4
        clear C2 hg4 hown4
        go_wp2_with fail
        go_ret
        exact ⟨_, Hown4.out, rfl, hb4⟩
end Go.Proofs.YthmdhokmgicnmaaGreatDoor
