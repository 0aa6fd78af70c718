/- Idle. -/
import Derived.Test.YthmdhokmgicnmaaGreatDoorFxp
import Derived.Test.YthmdhokmgicnmaaGreatDoorFxj
namespace Go.Proofs.YthmdhokmgicnmaaGreatDoor
open Go.RowKit

theorem cell_two_new (w : World) (a b : Value) (t : TypeId) : ∀ j u, [a, b][j]? = some u → (w.alloc (.cells #[a, b] t)).cell? ((⟨w.heap.size, 0, none⟩ : Addr).add j) = some u := by
  intro j u hu
  have hadd : (⟨w.heap.size, 0, none⟩ : Addr).add j = ⟨w.heap.size, j, none⟩ := by unfold Addr.add; split <;> simp_all
  rw [hadd, World.cell?_alloc_at _ _ _ _ rfl]
  match j, hu with
  | 0, hu => simpa using hu
  | 1, hu => simpa using hu
/-- All clubs. -/
def clubsL (fs : List FD) : List ByteArray := fs.flatMap fun f => [f.home, f.away]
theorem clubsL_snoc {fs : List FD} {k : Nat} {f : FD} (hk : fs[k]? = some f) : clubsL (fs.take (k + 1)) = clubsL (fs.take k) ++ [f.home, f.away] := by
  have hlt : k < fs.length := (List.getElem?_eq_some_iff.1 hk).1
  have e : fs.take (k + 1) = fs.take k ++ [f] := by
    rw [List.take_succ_eq_append_getElem hlt, (List.getElem?_eq_some_iff.1 hk).2]
  unfold clubsL
  rw [e, List.flatMap_append]
  simp
theorem clubsL_length (fs : List FD) : (clubsL fs).length = 2 * fs.length := by
  unfold clubsL
  induction fs with
  | nil => rfl
  | cons f fs ih => simp [ih]; omega
theorem clubsL_small {fs : List FD} (h : ∀ f ∈ fs, OkF f) {k : ByteArray} (hk : k ∈ clubsL fs) : k.size ≤ 1000000 := by
  unfold clubsL at hk
  obtain ⟨f, hf, hk⟩ := List.mem_flatMap.1 hk
  have := h f hf
  simp only [List.mem_cons, List.not_mem_nil, or_false] at hk
  rcases hk with rfl | rfl
  · exact Nat.le_trans this.1 (by omega)
  · exact Nat.le_trans this.2.1 (by omega)
def idleE (fs : List FD) (week : Int) : Int := firstE [chkFx fs, unlessE (betwB week 1 60) 1]
def idleR (fs : List FD) (week : Int) : List ByteArray := if idleE fs week = 0 then (compactL (sortL (clubsL fs))).filter fun c => !(lkA (bgL week fs) c).isSome else []
def MadeSX (ks : List ByteArray) (x : Int) (w : World) (e : Ending) (w' : World) : Prop := ∃ v, Strs w' w.heap.size v ks ∧ e = .returned (.tuple #[v, .int .i64 x]) ∧ Below w.heap.size w w'
theorem Rows.lo {w : World} {T lo lo' sz : Nat} {v : Value} {rows : List (List Value)} (h : Rows w T lo sz v rows) (hl : lo' ≤ lo) : Rows w T lo' sz v rows := h.mono hl
set_option maxRecDepth 100000 in
set_option maxHeartbeats 4000000 in
theorem idle_calls (lo : Nat) (v : Value) (fs : List FD) (week : Int) (w : World) (hF : Fxs w lo v fs) (hok : ∀ f ∈ fs, OkF f) (hn : fs.length ≤ 10000) :
    Calls Tryz.prog 40 #[v, .int .i64 week] w (MadeSX (idleR fs week) (idleE fs week) w) := by
  obtain ⟨i0, hi, hz0, hz1, hz2⟩ := info_parts info_str
  have HE := Lib.hid (show idleE fs week = firstE [chkFx fs, unlessE (betwB week 1 60) 1] from rfl)
  have HR := Lib.hid (show idleR fs week = if idleE fs week = 0 then (compactL (sortL (clubsL fs))).filter (fun c => !(lkA (bgL week fs) c).isSome) else [] from rfl)
  generalize idleE fs week = E at HE HR ⊢
  generalize idleR fs week = R at HR ⊢
  have Hok := Lib.hid hok
  have hF' := hF
  obtain ⟨fa, fc, rfl⟩ := fxs_shape hF
  have C := Lib.hid (checkFixtures_calls lo _ fs w hF hok (by omega))
  clear hF hok
  go_enter Tryz.func40, Tryz.ntmps40
  go_wp2_with fail
  refine C.out.mono ?_
  rintro e w1 ⟨rfl, hb1⟩
  have hF1 := hF'.below hb1
  clear C hF'
  go_wp2_with fail
  refine (week_calls _ _).mono ?_
  rintro e w' ⟨rfl, rfl⟩
  go_wp2_with fail
  refine (unless_calls _ _ _).mono ?_
  rintro e w' ⟨rfl, rfl⟩
  go_wp2_with fail
  refine (orE_calls _ 0 2 [chkFx fs, unlessE (betwB week 1 60) 1] _ (by simp) (by exact nums2 _ _ _ _)).mono ?_
  rintro e w2 ⟨rfl, hw2⟩
  rw [← HE.out]
  have hF2 := hF1.below (below_alloc w1 (.cells #[.int .i64 (chkFx fs), .int .i64 (unlessE (betwB week 1 60) 1)] 32))
  have hb2 := below_step hb1 (below_alloc w1 (.cells #[.int .i64 (chkFx fs), .int .i64 (unlessE (betwB week 1 60) 1)] 32))
  rw [hw2] at hF2 hb2
  clear hw2 hF1 hb1
  by_cases hz : E = 0
  · have e1 : (E != 0) = false := by simp [hz]
    have Hz := Lib.hid hz
    have HR' := Lib.hid (show R = (compactL (sortL (clubsL fs))).filter (fun c => !(lkA (bgL week fs) c).isSome) by rw [HR.out, if_pos hz])
    have HF2 := Lib.hid hF2
    have HC3 := Lib.hid (show ∀ w3, Below w2.heap.size w2 w3 → Calls Tryz.prog 102 #[.slice fa fs.length fc, .int .i64 week] w3 (MadeMap (bgL week fs) w3) from fun w3 hb => firsts_calls lo _ fs week w3 (HF2.out.below hb) Hok.out hn)
    clear hz
    -- what follows the loop, whatever it has made
    have HT : Hid (∀ (L : List ByteArray), L = clubsL fs → L.length ≤ 1000000) := Lib.hid fun L e => by rw [e, clubsL_length]; omega
    rcases fxs_at hF2 with ⟨h1, h2⟩ | ⟨g, off, cap, h1, hlo, hg, hn1, hcell⟩
    · obtain ⟨rfl, rfl⟩ : fa = none ∧ fc = 0 := by rw [h2] at h1; simpa using h1
      have hl0 : fs.length = 0 := by rw [h2]; rfl
      have HL := Lib.hid (show clubsL fs = [] by rw [h2]; rfl)
      have HT2 := Lib.hid (Nat.le_of_eq (congrArg List.length HL.out))
      have hfs : fs.length = 0 := hl0
      clear hF2 h1 h2
      rw [hfs] at HC3 ⊢
      go_wp2_with fail
      refine wp_loop_rounds 1 ?_
      rw [rounds_succ]
      go_wp2_with fail
      have hown : OwnS w2 w2.heap.size (.slice none 0 0) (clubsL fs) := by rw [HL.out]; exact World.ownsRow_nil _ _ _ _
      have Hown := Lib.hid hown
      have C1 := Lib.hid (sortS_calls w2.heap.size _ _ w2 hown (HT.out _ rfl))
      clear hown
      go_wp2_with fail
      refine C1.out.mono ?_
      rintro e w3 ⟨rfl, hown3, hg3⟩
      have hb3 : Below w2.heap.size w2 w3 := (Below.refl w2.heap.size w2).grown hg3 (Nat.le_refl _) fun r hr => (own_block Hown.out r hr).1
      have C2 := HC3.out w3 hb3
      clear C1 hg3 Hown
      go_wp2_with fail
      refine C2.mono ?_
      rintro e w4 ⟨b, n, rfl, hB4, hb4w, hb4⟩
      have hown4 : OwnS w4 w2.heap.size _ (sortL (clubsL fs)) := World.ownsRow.kept hown3 (gb_below hb4 none) (by cases hv : Value.ownBlock _ <;> simp)
      have hb24 := below_step hb3 hb4
      have hr4 : ∀ r, Value.ownBlock (.slice none 0 0) = some r → r < w3.heap.size := fun r hr => by obtain ⟨_, cur, h⟩ := own_block hown3 r hr; exact lt_of_heap h
      clear C2 hown3
      have hb4s := hb4.size
      have hB5 := hB4.kept (gb_alloc w4 (.cells #[.map (some b)] 123) none) (by simp)
      have hc5 : (w4.alloc (.cells #[.map (some b)] 123)).cell? ⟨w4.heap.size, 0, none⟩ = some (.map (some b)) := by rw [World.cell?_alloc_at _ _ _ _ rfl]; rfl
      have hown5 : OwnS _ w2.heap.size _ _ := World.ownsRow.alloc hown4 (.cells #[.map (some b)] 123)
      have hb25 := below_step hb24 (below_alloc w4 (.cells #[.map (some b)] 123))
      have C3 := Lib.hid (compactS_calls w2.heap.size _ _ _ hown5 (by rw [sortL_length]; exact HT.out _ rfl))
      have hr5 : ∀ r, Value.ownBlock (.slice none 0 0) = some r → w2.heap.size ≤ r := fun r hr => (own_block hown5 r hr).1
      clear hown4 hb24 hB4 hown5
      go_wp2_with fail
      refine C3.out.mono ?_
      rintro e w6 ⟨v6, rfl, hown6, hg6, hob⟩
      have hne : ∀ r, Value.ownBlock (.slice none 0 0) = some r → r ≠ b ∧ r ≠ w4.heap.size := fun r hr => by have := hr4 r hr; omega
      have hB6 := hB5.kept hg6 (fun e => (hne b e.symm).1 rfl)
      have hc6 : w6.cell? ⟨w4.heap.size, 0, none⟩ = some (.map (some b)) := hg6.cell hc5 (fun e => (hne _ e.symm).2 rfl)
      have hb26 : Below w2.heap.size w2 w6 := hb25.grown hg6 hb25.size hr5
      rw [← hob] at hne
      clear C3 hB5 hc5 hg6 hob hr4 hr5 hb25
      have HK := Lib.hid (show ∀ (W : World) (k : ByteArray) (row : Option Nat), k ∈ compactL (sortL (clubsL fs)) → w6.grownBy W row → (∀ r, row = some r → r ≠ b ∧ r ≠ w4.heap.size) → Calls Tryz.prog 111 (#[.string k] ++ #[.pointer (some ⟨w4.heap.size, 0, none⟩)]) W (BoolIs (lkA (bgL week fs) k).isSome W) from fun W k row hk hg hr =>
        idle1_calls _ b n _ k W (hg.cell hc6 fun e => (hr _ e.symm).2 rfl) (hB6.kept hg fun e => (hr _ e.symm).1 rfl) (clubsL_small Hok.out (mem_cs hk)))
      clear hc6 hB6
      rcases hown6.2 with ⟨rfl, h0⟩ | ⟨g6, cap6, cur6, rfl, hgW, hgh, hcap6, _⟩
      · have hnil : compactL (sortL (clubsL fs)) = [] := List.eq_nil_of_length_eq_zero h0
        have HRn := Lib.hid (show R = [] by rw [HR'.out, hnil]; rfl)
        have D := Lib.hid (deleteS0_calls 111 #[.pointer (some ⟨w4.heap.size, 0, none⟩)] w6 (enters_of Tryz.func111 (by kernel_rfl) rfl))
        clear hown6 hnil h0 hne
        go_wp2_with fail
        refine D.out.mono ?_
        rintro e w7 ⟨rfl, hb7⟩
        go_wp2_with fail
        go_ret2
        refine ⟨_, ?_, by rw [Hz.out]; rfl, below_step hb2 (below_step hb26 hb7)⟩
        rw [HRn.out]
        exact ⟨by simp, by simp, .inl ⟨rfl, rfl⟩⟩
      · have hown6' : w6.ownsRow w2.heap.size 9 1 (.slice (some ⟨g6, 0, none⟩) (compactL (sortL (clubsL fs))).length cap6) ((compactL (sortL (clubsL fs))).map sRow).length ((compactL (sortL (clubsL fs))).map sRow).flatten := by
          rw [flatten_single, List.length_map]; exact hown6
        obtain ⟨hr6, -⟩ := RowsAt.of_owns (rows := (compactL (sortL (clubsL fs))).map sRow) hown6' (by simp)
        have hcl : (compactL (sortL (clubsL fs))).length ≤ 1000000 := by
          have h1 := compactL_le (sortL (clubsL fs))
          rw [sortL_length] at h1
          have := HT.out _ rfl
          omega
        have D := Lib.hid (deleteS_calls 111 #[.pointer (some ⟨w4.heap.size, 0, none⟩)] (fun c => (lkA (bgL week fs) c).isSome) w2.heap.size g6 0 cap6 _ w6 hr6 hcl hcap6 hgW (enters_of Tryz.func111 (by kernel_rfl) rfl) fun W k hk hg => HK.out W k _ hk hg hne)
        have hn6 : (compactL (sortL (clubsL fs))).length = (compactL (sortL (clubsL fs))).length := rfl
        generalize compactL (sortL (clubsL fs)) = CL at D HR' hn6
        clear hown6 hown6' hr6 hgh hcap6 hne hcl HK hn6
        go_wp2_with fail
        refine D.out.mono ?_
        rintro e w7 ⟨v7, rfl, hS7, hg7⟩
        rw [← HR'.out] at hS7
        have HS7 := Lib.hid hS7
        have hb7 : Below w2.heap.size w2 w7 := hb26.grown hg7 hb26.size fun r hr => by cases hr; exact hgW
        clear hS7 hg7 D
        go_wp2_with fail
        go_ret2
        exact ⟨_, HS7.out.mono hb2.size, by rw [Hz.out]; rfl, below_step hb2 hb7⟩
    · simp only [Value.slice.injEq, true_and] at h1
      obtain ⟨rfl, rfl⟩ := h1
      have Hc := Lib.hid hcell
      clear hF2 hcell
      go_wp2_with fail
      go_loopw [7, 23] (fun out i wr => ∃ k : Nat, k ≤ fs.length ∧ i = .int .i64 k ∧ OwnS wr w2.heap.size out (clubsL (fs.take k)) ∧ Below w2.heap.size w2 wr) (fun _ i _ => fs.length - (intOf i).toNat)
      case atStart => exact ⟨0, Nat.zero_le _, rfl, World.ownsRow_nil _ _ _ _, Below.refl _ _⟩
      case round =>
        obtain ⟨k, hk, rfl, hown, hbb⟩ := hrel
        by_cases hlt : k < fs.length
        · obtain ⟨f, hf⟩ : ∃ f, fs[k]? = some f := ⟨fs[k], List.getElem?_eq_getElem hlt⟩
          have Hs := Lib.hid (clubsL_snoc hf)
          obtain ⟨q0, q1, q2, q3⟩ := Hc.out k f hf
          have g0 := below_cell hbb q0
          have g1 := below_cell hbb q1
          have g2 := below_cell hbb q2
          have g3 := below_cell hbb q3
          have hle : (clubsL (fs.take k)).length ≤ 1000000 := by
            rw [clubsL_length]
            have h2 := List.length_take_le k fs
            omega
          generalize clubsL (fs.take k) = L at Hs hown hle
          have hbb' := below_step hbb (below_alloc wr (.cells #[.int .i64 f.week, .int .i64 f.moment, .string f.home, .string f.away] 72))
          have hown' : OwnS _ w2.heap.size _ L := World.ownsRow.alloc hown (.cells #[.int .i64 f.week, .int .i64 f.moment, .string f.home, .string f.away] 72)
          have hwr := hbb.size
          clear hf q0 q1 q2 q3 hbb hown
          go_wp2_with (at_builtin; refine wpList_append_own _ rfl _ _ 35 rfl w2.heap.size 9 i0 (.string ⟨#[]⟩) 1 16 Tryz.underlying35 hi hz0 hz1 hz2 rfl (by decide) _ _ _ rfl (World.ownsRow.alloc hown' _) ⟨wr.heap.size + 1, 0, none⟩ 2 2 [.string f.home, .string f.away] rfl rfl ?c1 ?c2 ?c3 ?c4 ?c5 ?_)
          case c1 =>
            have := cell_two_new (wr.alloc (.cells #[.int .i64 f.week, .int .i64 f.moment, .string f.home, .string f.away] 72)) (.string f.home) (.string f.away) 9
            simpa using this
          case c2 => simp [Value.oneCell']
          case c3 => unfold maxLen; omega
          case c4 => omega
          case c5 => simp; omega
          intro v' w6 hown6 hgrow _
          have hown6' : OwnS w6 w2.heap.size v' (L ++ [f.home, f.away]) := by unfold OwnS; simpa using hown6
          have hbb6 : Below w2.heap.size w2 w6 := (below_step hbb' (below_alloc _ _)).grown hgrow (by simp; omega) fun r hr => (own_block hown' r hr).1
          clear hown6 hgrow hbb' hown'
          go_wp2_with fail
          go_roundw
          case rel => exact ⟨k + 1, by omega, by go_num, by rw [Hs.out]; exact hown6', hbb6⟩
          case measure => simp [intOf]; omega
        · obtain rfl : k = fs.length := by omega
          have hT := List.take_length (l := fs)
          rw [hT] at hown
          have Hown := Lib.hid hown
          have C1 := Lib.hid (sortS_calls w2.heap.size _ _ wr hown (HT.out _ rfl))
          obtain ⟨la, lb, lcc, rfl⟩ : ∃ a n c, u7 = .slice a n c := by obtain ⟨a, c, h⟩ := owns_shape hown; exact ⟨_, _, _, h⟩
          clear hown hT
          go_wp2_with fail
          refine C1.out.mono ?_
          rintro e w3 ⟨rfl, hown3, hg3⟩
          have hb3 : Below w2.heap.size w2 w3 := hbb.grown hg3 hbb.size fun r hr => (own_block Hown.out r hr).1
          have C2 := HC3.out w3 hb3
          clear C1 hg3 Hown hbb
          go_wp2_with fail
          refine C2.mono ?_
          rintro e w4 ⟨b, n, rfl, hB4, hb4w, hb4⟩
          have hown4 : OwnS w4 w2.heap.size _ (sortL (clubsL fs)) := World.ownsRow.kept hown3 (gb_below hb4 none) (by cases hv : Value.ownBlock _ <;> simp)
          have hb24 := below_step hb3 hb4
          have hr4 : ∀ r, Value.ownBlock (.slice la lb lcc) = some r → r < w3.heap.size := fun r hr => by obtain ⟨_, cur, h⟩ := own_block hown3 r hr; exact lt_of_heap h
          clear C2 hown3
          have hb4s := hb4.size
          have hB5 := hB4.kept (gb_alloc w4 (.cells #[.map (some b)] 123) none) (by simp)
          have hc5 : (w4.alloc (.cells #[.map (some b)] 123)).cell? ⟨w4.heap.size, 0, none⟩ = some (.map (some b)) := by rw [World.cell?_alloc_at _ _ _ _ rfl]; rfl
          have hown5 : OwnS _ w2.heap.size _ _ := World.ownsRow.alloc hown4 (.cells #[.map (some b)] 123)
          have hb25 := below_step hb24 (below_alloc w4 (.cells #[.map (some b)] 123))
          have C3 := Lib.hid (compactS_calls w2.heap.size _ _ _ hown5 (by rw [sortL_length]; exact HT.out _ rfl))
          have hr5 : ∀ r, Value.ownBlock (.slice la lb lcc) = some r → w2.heap.size ≤ r := fun r hr => (own_block hown5 r hr).1
          clear hown4 hb24 hB4 hown5
          go_wp2_with fail
          refine C3.out.mono ?_
          rintro e w6 ⟨v6, rfl, hown6, hg6, hob⟩
          have hne : ∀ r, Value.ownBlock (.slice la lb lcc) = some r → r ≠ b ∧ r ≠ w4.heap.size := fun r hr => by have := hr4 r hr; omega
          have hB6 := hB5.kept hg6 (fun e => (hne b e.symm).1 rfl)
          have hc6 : w6.cell? ⟨w4.heap.size, 0, none⟩ = some (.map (some b)) := hg6.cell hc5 (fun e => (hne _ e.symm).2 rfl)
          have hb26 : Below w2.heap.size w2 w6 := hb25.grown hg6 hb25.size hr5
          rw [← hob] at hne
          clear C3 hB5 hc5 hg6 hob hr4 hr5 hb25
          have HK := Lib.hid (show ∀ (W : World) (k : ByteArray) (row : Option Nat), k ∈ compactL (sortL (clubsL fs)) → w6.grownBy W row → (∀ r, row = some r → r ≠ b ∧ r ≠ w4.heap.size) → Calls Tryz.prog 111 (#[.string k] ++ #[.pointer (some ⟨w4.heap.size, 0, none⟩)]) W (BoolIs (lkA (bgL week fs) k).isSome W) from fun W k row hk hg hr =>
            idle1_calls _ b n _ k W (hg.cell hc6 fun e => (hr _ e.symm).2 rfl) (hB6.kept hg fun e => (hr _ e.symm).1 rfl) (clubsL_small Hok.out (mem_cs hk)))
          clear hc6 hB6
          rcases hown6.2 with ⟨rfl, h0⟩ | ⟨g6, cap6, cur6, rfl, hgW, hgh, hcap6, _⟩
          · have hnil : compactL (sortL (clubsL fs)) = [] := List.eq_nil_of_length_eq_zero h0
            have HRn := Lib.hid (show R = [] by rw [HR'.out, hnil]; rfl)
            have D := Lib.hid (deleteS0_calls 111 #[.pointer (some ⟨w4.heap.size, 0, none⟩)] w6 (enters_of Tryz.func111 (by kernel_rfl) rfl))
            clear hown6 hnil h0 hne
            go_wp2_with fail
            refine D.out.mono ?_
            rintro e w7 ⟨rfl, hb7⟩
            go_wp2_with fail
            go_ret2
            refine ⟨_, ?_, by rw [Hz.out]; rfl, below_step hb2 (below_step hb26 hb7)⟩
            rw [HRn.out]
            exact ⟨by simp, by simp, .inl ⟨rfl, rfl⟩⟩
          · have hown6' : w6.ownsRow w2.heap.size 9 1 (.slice (some ⟨g6, 0, none⟩) (compactL (sortL (clubsL fs))).length cap6) ((compactL (sortL (clubsL fs))).map sRow).length ((compactL (sortL (clubsL fs))).map sRow).flatten := by
              rw [flatten_single, List.length_map]; exact hown6
            obtain ⟨hr6, -⟩ := RowsAt.of_owns (rows := (compactL (sortL (clubsL fs))).map sRow) hown6' (by simp)
            have hcl : (compactL (sortL (clubsL fs))).length ≤ 1000000 := by
              have h1 := compactL_le (sortL (clubsL fs))
              rw [sortL_length] at h1
              have := HT.out _ rfl
              omega
            have D := Lib.hid (deleteS_calls 111 #[.pointer (some ⟨w4.heap.size, 0, none⟩)] (fun c => (lkA (bgL week fs) c).isSome) w2.heap.size g6 0 cap6 _ w6 hr6 hcl hcap6 hgW (enters_of Tryz.func111 (by kernel_rfl) rfl) fun W k hk hg => HK.out W k _ hk hg hne)
            have hn6 : (compactL (sortL (clubsL fs))).length = (compactL (sortL (clubsL fs))).length := rfl
            generalize compactL (sortL (clubsL fs)) = CL at D HR' hn6
            clear hown6 hown6' hr6 hgh hcap6 hne hcl HK hn6
            go_wp2_with fail
            refine D.out.mono ?_
            rintro e w7 ⟨v7, rfl, hS7, hg7⟩
            rw [← HR'.out] at hS7
            have HS7 := Lib.hid hS7
            have hb7 : Below w2.heap.size w2 w7 := hb26.grown hg7 hb26.size fun r hr => by cases hr; exact hgW
            clear hS7 hg7 D
            go_wp2_with fail
            go_ret2
            exact ⟨_, HS7.out.mono hb2.size, by rw [Hz.out]; rfl, below_step hb2 hb7⟩
  · have e1 : (E != 0) = true := by simp [hz]
    have HR' := Lib.hid (show R = [] by rw [HR.out, if_neg hz])
    clear hz
    go_wp2_with fail
    go_ret2
    refine ⟨_, ?_, rfl, hb2⟩
    rw [HR'.out]
    exact ⟨by simp, by simp, .inl ⟨rfl, rfl⟩⟩
end Go.Proofs.YthmdhokmgicnmaaGreatDoor
