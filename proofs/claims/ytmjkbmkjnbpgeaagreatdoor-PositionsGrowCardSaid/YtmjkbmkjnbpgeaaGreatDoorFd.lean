/- Plain facts on sorted rows of strings, each once. Idle. The reference's IdleOf; slices.Equal at fixtures. -/
import Derived.Test.YtmjkbmkjnbpgeaaGreatDoorFc
import Derived.Test.YtmjkbmkjnbpgeaaGreatDoorFb
import Derived.Maps.AppendAt
namespace Go.Proofs.YtmjkbmkjnbpgeaaGreatDoor
open Go.RowKit Go.Sort

theorem mem_compactUpTo (d : Array (List UInt8)) (x : List UInt8) : ∀ m, x ∈ Lib.compactUpTo d m ↔ ∃ j, j < m ∧ d[j]! = x
  | 0 => by simp [Lib.compactUpTo]
  | m + 1 => by
    rw [Lib.compactUpTo_succ, List.mem_append, mem_compactUpTo d x m]
    constructor
    · rintro (⟨j, hj, e⟩ | h)
      · exact ⟨j, by omega, e⟩
      · split at h
        · exact ⟨m, by omega, (List.mem_singleton.1 h).symm⟩
        · cases h
    · rintro ⟨j, hj, e⟩
      rcases Nat.lt_succ_iff_lt_or_eq.1 hj with h | rfl
      · exact .inl ⟨j, h, e⟩
      · cases hk : Lib.keeps d j
        · left
          have h0 : 0 < j ∧ d[j]! = d[j - 1]! := by
            simp only [Lib.keeps, decide_eq_false_iff_not, not_or, Decidable.not_not, ne_eq] at hk
            exact ⟨by omega, hk.2⟩
          exact ⟨j - 1, by omega, by rw [← h0.2]; exact e⟩
        · right; simp [e]
theorem mem_compact (zs : List (List UInt8)) (x : List UInt8) : x ∈ Lib.compact zs ↔ x ∈ zs := by
  unfold Lib.compact
  rw [mem_compactUpTo]
  constructor
  · rintro ⟨j, hj, rfl⟩
    simp [hj]
  · intro h
    obtain ⟨j, hj, e⟩ := List.mem_iff_getElem.1 h
    exact ⟨j, hj, by simp [hj, e]⟩
theorem mem_sortL {ks : List ByteArray} {k : ByteArray} : k ∈ sortL ks ↔ k ∈ ks := by
  have h : ∀ (l : List (List UInt8)), k ∈ (l.mergeSort fun x y => decide (x ≤ y)).map ofL ↔ k ∈ l.map ofL := fun l => by
    simp [List.mem_map, List.mem_mergeSort]
  unfold sortL
  rw [h, map_ofL_toL]
theorem mem_compactL {ks : List ByteArray} {k : ByteArray} : k ∈ compactL ks ↔ k ∈ ks := by
  have h : ∀ (l : List (List UInt8)), k ∈ (Lib.compact l).map ofL ↔ k ∈ l.map ofL := fun l => by
    simp [List.mem_map, mem_compact]
  unfold compactL
  rw [h, map_ofL_toL]
theorem mem_cs {ks : List ByteArray} {k : ByteArray} (h : k ∈ compactL (sortL ks)) : k ∈ ks := mem_sortL.1 (mem_compactL.1 h)

theorem lt_of_le_ne {a b : List UInt8} (h : a ≤ b) (hn : a ≠ b) : a < b := by
  rcases List.le_iff_lt_or_eq.1 h with h | h
  · exact h
  · exact absurd h hn
theorem compactUpTo_strict (d : Array (List UInt8)) (hs : ∀ j, j + 1 < d.size → d[j]! ≤ d[j + 1]!) : ∀ m, m ≤ d.size → (Lib.compactUpTo d m).Pairwise (· < ·) ∧ ∀ x ∈ Lib.compactUpTo d m, x ≤ d[m - 1]!
  | 0, _ => by simp [Lib.compactUpTo]
  | m + 1, hm => by
    obtain ⟨h1, h2⟩ := compactUpTo_strict d hs m (by omega)
    rw [Lib.compactUpTo_succ]
    have hle : ∀ x ∈ Lib.compactUpTo d m, x ≤ d[m]! := fun x hx => by
      by_cases h0 : m = 0
      · subst h0; simp [Lib.compactUpTo] at hx
      · have := hs (m - 1) (by omega)
        rw [show m - 1 + 1 = m by omega] at this
        exact List.le_trans (h2 x hx) this
    refine ⟨?_, ?_⟩
    · rw [List.pairwise_append]
      refine ⟨h1, by split <;> simp, fun x hx y hy => ?_⟩
      cases hk : Lib.keeps d m
      · rw [hk] at hy; simp at hy
      · rw [hk] at hy
        have hy : y = d[m]! := by simpa using hy
        subst hy
        refine lt_of_le_ne (hle x hx) fun e => ?_
        by_cases h0 : m = 0
        · subst h0; simp [Lib.compactUpTo] at hx
        · have hk' : d[m]! ≠ d[m - 1]! := by
            simp only [Lib.keeps, decide_eq_true_eq] at hk
            rcases hk with h | h
            · exact absurd h h0
            · exact h
          have a1 := h2 x hx
          rw [e] at a1
          have a2 := hs (m - 1) (by omega)
          rw [show m - 1 + 1 = m by omega] at a2
          exact hk' (List.le_antisymm a1 a2)
    · intro x hx
      rw [Nat.add_sub_cancel]
      rcases List.mem_append.1 hx with h | h
      · exact hle x h
      · split at h
        · rw [List.mem_singleton.1 h]; exact List.le_refl _
        · cases h
theorem compact_strict {zs : List (List UInt8)} (h : zs.Pairwise (· ≤ ·)) : (Lib.compact zs).Pairwise (· < ·) := by
  refine (compactUpTo_strict zs.toArray (fun j hj => ?_) zs.length (by simp)).1
  have hj' : j + 1 < zs.length := by simpa using hj
  have := List.pairwise_iff_getElem.1 h j (j + 1) (by omega) hj' (by omega)
  simpa [hj', show j < zs.length by omega] using this
theorem strict_ext : ∀ {a b : List (List UInt8)}, a.Pairwise (· < ·) → b.Pairwise (· < ·) → (∀ x, x ∈ a ↔ x ∈ b) → a = b
  | [], [], _, _, _ => rfl
  | [], y :: b, _, _, h => by have := (h y).2 (by simp); simp at this
  | x :: a, [], _, _, h => by have := (h x).1 (by simp); simp at this
  | x :: a, y :: b, ha, hb, h => by
    rw [List.pairwise_cons] at ha hb
    have hxy : x = y := by
      have h1 := (h x).1 (by simp)
      have h2 := (h y).2 (by simp)
      rcases List.mem_cons.1 h1 with e | h1
      · exact e
      · rcases List.mem_cons.1 h2 with e | h2
        · exact e.symm
        · exact absurd (List.lt_trans (hb.1 x h1) (ha.1 y h2)) (List.lt_irrefl _)
    subst hxy
    rw [strict_ext ha.2 hb.2 fun z => ?_]
    constructor
    · intro hz
      rcases List.mem_cons.1 ((h z).1 (List.mem_cons_of_mem _ hz)) with e | h'
      · subst e; exact absurd (ha.1 z hz) (List.lt_irrefl _)
      · exact h'
    · intro hz
      rcases List.mem_cons.1 ((h z).2 (List.mem_cons_of_mem _ hz)) with e | h'
      · subst e; exact absurd (hb.1 z hz) (List.lt_irrefl _)
      · exact h'
theorem sorted_merge (l : List (List UInt8)) : (l.mergeSort fun x y => decide (x ≤ y)).Pairwise (· ≤ ·) := by
  have := List.pairwise_mergeSort (le := fun (x y : List UInt8) => decide (x ≤ y)) (fun a b c h1 h2 => by simp only [decide_eq_true_eq] at *; exact List.le_trans h1 h2) (fun a b => by
    simp only [Bool.or_eq_true, decide_eq_true_eq]; exact List.le_total a b) l
  exact this.imp fun h => by simpa using h
theorem sortL_toL (ks : List ByteArray) : (sortL ks).map toL = (ks.map toL).mergeSort fun x y => decide (x ≤ y) := by
  unfold sortL
  rw [List.map_map]
  have : (toL ∘ ofL) = id := funext fun l => toL_ofL l
  rw [this, List.map_id]
/-- Whether some are struck out ahead or behind: the same are left. -/
theorem cs_filter (q : ByteArray → Bool) (ks : List ByteArray) : (compactL (sortL ks)).filter q = compactL (sortL (ks.filter q)) := by
  have e1 : ∀ l : List ByteArray, compactL (sortL l) = (Lib.compact ((l.map toL).mergeSort fun x y => decide (x ≤ y))).map ofL := fun l => by
    unfold compactL; rw [sortL_toL]
  rw [e1, e1, List.filter_map]
  congr 1
  refine strict_ext ((compact_strict (sorted_merge _)).filter _) (compact_strict (sorted_merge _)) fun x => ?_
  rw [List.mem_filter, mem_compact, mem_compact, List.mem_mergeSort, List.mem_mergeSort]
  simp only [List.mem_map, List.mem_filter, Function.comp]
  constructor
  · rintro ⟨⟨k, hk, rfl⟩, hq⟩
    rw [ofL_toL] at hq
    exact ⟨k, ⟨hk, hq⟩, rfl⟩
  · rintro ⟨k, ⟨hk, hq⟩, rfl⟩
    exact ⟨⟨k, hk, rfl⟩, by rw [ofL_toL]; exact hq⟩
end Go.Proofs.YtmjkbmkjnbpgeaaGreatDoor
namespace Go.Proofs.YtmjkbmkjnbpgeaaGreatDoor
open Go.RowKit

theorem cell_two_new (w : World) (a b : Value) (t : TypeId) : ∀ j u, [a, b][j]? = some u → (w.alloc (.cells #[a, b] t)).cell? ((⟨w.heap.size, 0, none⟩ : Addr).add j) = some u := by
  intro j u hu
  have hadd : (⟨w.heap.size, 0, none⟩ : Addr).add j = ⟨w.heap.size, j, none⟩ := by unfold Addr.add; split <;> simp_all
  rw [hadd, World.cell?_alloc_at _ _ _ _ rfl]
  match j, hu with
  | 0, hu => simpa using hu
  | 1, hu => simpa using hu
/-- All clubs. -/
def clubsL (fs : List FD) : List ByteArray := fs.flatMap fun f => [f.home, f.away]
theorem clubsL_snoc {fs : List FD} {k : Nat} {f : FD} (hk : fs[k]? = some f) : clubsL (fs.take (k + 1)) = clubsL (fs.take k) ++ [f.home, f.away] := by
  have hlt : k < fs.length := (List.getElem?_eq_some_iff.1 hk).1
  have e : fs.take (k + 1) = fs.take k ++ [f] := by
    rw [List.take_succ_eq_append_getElem hlt, (List.getElem?_eq_some_iff.1 hk).2]
  unfold clubsL
  rw [e, List.flatMap_append]
  simp
theorem clubsL_length (fs : List FD) : (clubsL fs).length = 2 * fs.length := by
  unfold clubsL
  induction fs with
  | nil => rfl
  | cons f fs ih => simp [ih]; omega
theorem clubsL_small {fs : List FD} (h : ∀ f ∈ fs, OkF f) {k : ByteArray} (hk : k ∈ clubsL fs) : k.size ≤ 1000000 := by
  unfold clubsL at hk
  obtain ⟨f, hf, hk⟩ := List.mem_flatMap.1 hk
  have := h f hf
  simp only [List.mem_cons, List.not_mem_nil, or_false] at hk
  rcases hk with rfl | rfl
  · exact Nat.le_trans this.1 (by omega)
  · exact Nat.le_trans this.2.1 (by omega)
def idleE (fs : List FD) (week : Int) : Int := firstE [chkFx fs, unlessE (betwB week 1 60) 1]
def idleR (fs : List FD) (week : Int) : List ByteArray := if idleE fs week = 0 then (compactL (sortL (clubsL fs))).filter fun c => !(lkA (bgL week fs) c).isSome else []
def MadeSX (ks : List ByteArray) (x : Int) (w : World) (e : Ending) (w' : World) : Prop := ∃ v, Strs w' w.heap.size v ks ∧ e = .returned (.tuple #[v, .int .i64 x]) ∧ Below w.heap.size w w'
theorem Rows.lo {w : World} {T lo lo' sz : Nat} {v : Value} {rows : List (List Value)} (h : Rows w T lo sz v rows) (hl : lo' ≤ lo) : Rows w T lo' sz v rows := h.mono hl
set_option maxRecDepth 100000 in
set_option maxHeartbeats 4000000 in
theorem idle_calls (lo : Nat) (v : Value) (fs : List FD) (week : Int) (w : World) (hF : Fxs w lo v fs) (hok : ∀ f ∈ fs, OkF f) (hn : fs.length ≤ 10000) :
    Calls Tryz.prog 40 #[v, .int .i64 week] w (MadeSX (idleR fs week) (idleE fs week) w) := by
  obtain ⟨i0, hi, hz0, hz1, hz2⟩ := info_parts info_str
  have HE := Lib.hid (show idleE fs week = firstE [chkFx fs, unlessE (betwB week 1 60) 1] from rfl)
  have HR := Lib.hid (show idleR fs week = if idleE fs week = 0 then (compactL (sortL (clubsL fs))).filter (fun c => !(lkA (bgL week fs) c).isSome) else [] from rfl)
  generalize idleE fs week = E at HE HR ⊢
  generalize idleR fs week = R at HR ⊢
  have Hok := Lib.hid hok
  have hF' := hF
  obtain ⟨fa, fc, rfl⟩ := fxs_shape hF
  have C := Lib.hid (checkFixtures_calls lo _ fs w hF hok (by omega))
  clear hF hok
  go_enter Tryz.func40, Tryz.ntmps40
  go_wp2_with fail
  refine C.out.mono ?_
  rintro e w1 ⟨rfl, hb1⟩
  have hF1 := hF'.below hb1
  clear C hF'
  go_wp2_with fail
  refine (week_calls _ _).mono ?_
  rintro e w' ⟨rfl, rfl⟩
  go_wp2_with fail
  refine (unless_calls _ _ _).mono ?_
  rintro e w' ⟨rfl, rfl⟩
  go_wp2_with fail
  refine (orE_calls _ 0 2 [chkFx fs, unlessE (betwB week 1 60) 1] _ (by simp) (by exact nums2 _ _ _ _)).mono ?_
  rintro e w2 ⟨rfl, hw2⟩
  rw [← HE.out]
  have hF2 := hF1.below (below_alloc w1 (.cells #[.int .i64 (chkFx fs), .int .i64 (unlessE (betwB week 1 60) 1)] 32))
  have hb2 := below_step hb1 (below_alloc w1 (.cells #[.int .i64 (chkFx fs), .int .i64 (unlessE (betwB week 1 60) 1)] 32))
  rw [hw2] at hF2 hb2
  clear hw2 hF1 hb1
  by_cases hz : E = 0
  · have e1 : (E != 0) = false := by simp [hz]
    have Hz := Lib.hid hz
    have HR' := Lib.hid (show R = (compactL (sortL (clubsL fs))).filter (fun c => !(lkA (bgL week fs) c).isSome) by rw [HR.out, if_pos hz])
    have HF2 := Lib.hid hF2
    have HC3 := Lib.hid (show ∀ w3, Below w2.heap.size w2 w3 → Calls Tryz.prog 102 #[.slice fa fs.length fc, .int .i64 week] w3 (MadeMap (bgL week fs) w3) from fun w3 hb => firsts_calls lo _ fs week w3 (HF2.out.below hb) Hok.out hn)
    clear hz
    -- what follows the loop, whatever it has made
    have HT : Hid (∀ (L : List ByteArray), L = clubsL fs → L.length ≤ 1000000) := Lib.hid fun L e => by rw [e, clubsL_length]; omega
    rcases fxs_at hF2 with ⟨h1, h2⟩ | ⟨g, off, cap, h1, hlo, hg, hn1, hcell⟩
    · obtain ⟨rfl, rfl⟩ : fa = none ∧ fc = 0 := by rw [h2] at h1; simpa using h1
      have hl0 : fs.length = 0 := by rw [h2]; rfl
      have HL := Lib.hid (show clubsL fs = [] by rw [h2]; rfl)
      have HT2 := Lib.hid (Nat.le_of_eq (congrArg List.length HL.out))
      have hfs : fs.length = 0 := hl0
      clear hF2 h1 h2
      rw [hfs] at HC3 ⊢
      go_wp2_with fail
      refine wp_loop_rounds 1 ?_
      rw [rounds_succ]
      go_wp2_with fail
      have hown : OwnS w2 w2.heap.size (.slice none 0 0) (clubsL fs) := by rw [HL.out]; exact World.ownsRow_nil _ _ _ _
      have Hown := Lib.hid hown
      have C1 := Lib.hid (sortS_calls w2.heap.size _ _ w2 hown (HT.out _ rfl))
      clear hown
      go_wp2_with fail
      refine C1.out.mono ?_
      rintro e w3 ⟨rfl, hown3, hg3⟩
      have hb3 : Below w2.heap.size w2 w3 := (Below.refl w2.heap.size w2).grown hg3 (Nat.le_refl _) fun r hr => (own_block Hown.out r hr).1
      have C2 := HC3.out w3 hb3
      clear C1 hg3 Hown
      go_wp2_with fail
      refine C2.mono ?_
      rintro e w4 ⟨b, n, rfl, hB4, hb4w, hb4⟩
      have hown4 : OwnS w4 w2.heap.size _ (sortL (clubsL fs)) := World.ownsRow.kept hown3 (gb_below hb4 none) (by cases hv : Value.ownBlock _ <;> simp)
      have hb24 := below_step hb3 hb4
      have hr4 : ∀ r, Value.ownBlock (.slice none 0 0) = some r → r < w3.heap.size := fun r hr => by obtain ⟨_, cur, h⟩ := own_block hown3 r hr; exact lt_of_heap h
      clear C2 hown3
      have hb4s := hb4.size
      have hB5 := hB4.kept (gb_alloc w4 (.cells #[.map (some b)] 123) none) (by simp)
      have hc5 : (w4.alloc (.cells #[.map (some b)] 123)).cell? ⟨w4.heap.size, 0, none⟩ = some (.map (some b)) := by rw [World.cell?_alloc_at _ _ _ _ rfl]; rfl
      have hown5 : OwnS _ w2.heap.size _ _ := World.ownsRow.alloc hown4 (.cells #[.map (some b)] 123)
      have hb25 := below_step hb24 (below_alloc w4 (.cells #[.map (some b)] 123))
      have C3 := Lib.hid (compactS_calls w2.heap.size _ _ _ hown5 (by rw [sortL_length]; exact HT.out _ rfl))
      have hr5 : ∀ r, Value.ownBlock (.slice none 0 0) = some r → w2.heap.size ≤ r := fun r hr => (own_block hown5 r hr).1
      clear hown4 hb24 hB4 hown5
      go_wp2_with fail
      refine C3.out.mono ?_
      rintro e w6 ⟨v6, rfl, hown6, hg6, hob⟩
      have hne : ∀ r, Value.ownBlock (.slice none 0 0) = some r → r ≠ b ∧ r ≠ w4.heap.size := fun r hr => by have := hr4 r hr; omega
      have hB6 := hB5.kept hg6 (fun e => (hne b e.symm).1 rfl)
      have hc6 : w6.cell? ⟨w4.heap.size, 0, none⟩ = some (.map (some b)) := hg6.cell hc5 (fun e => (hne _ e.symm).2 rfl)
      have hb26 : Below w2.heap.size w2 w6 := hb25.grown hg6 hb25.size hr5
      rw [← hob] at hne
      clear C3 hB5 hc5 hg6 hob hr4 hr5 hb25
      have HK := Lib.hid (show ∀ (W : World) (k : ByteArray) (row : Option Nat), k ∈ compactL (sortL (clubsL fs)) → w6.grownBy W row → (∀ r, row = some r → r ≠ b ∧ r ≠ w4.heap.size) → Calls Tryz.prog 111 (#[.string k] ++ #[.pointer (some ⟨w4.heap.size, 0, none⟩)]) W (BoolIs (lkA (bgL week fs) k).isSome W) from fun W k row hk hg hr =>
        idle1_calls _ b n _ k W (hg.cell hc6 fun e => (hr _ e.symm).2 rfl) (hB6.kept hg fun e => (hr _ e.symm).1 rfl) (clubsL_small Hok.out (mem_cs hk)))
      clear hc6 hB6
      rcases hown6.2 with ⟨rfl, h0⟩ | ⟨g6, cap6, cur6, rfl, hgW, hgh, hcap6, _⟩
      · have hnil : compactL (sortL (clubsL fs)) = [] := List.eq_nil_of_length_eq_zero h0
        have HRn := Lib.hid (show R = [] by rw [HR'.out, hnil]; rfl)
        have D := Lib.hid (deleteS0_calls 111 #[.pointer (some ⟨w4.heap.size, 0, none⟩)] w6 (enters_of Tryz.func111 (by kernel_rfl) rfl))
        clear hown6 hnil h0 hne
        go_wp2_with fail
        refine D.out.mono ?_
        rintro e w7 ⟨rfl, hb7⟩
        go_wp2_with fail
        go_ret2
        refine ⟨_, ?_, by rw [Hz.out]; rfl, below_step hb2 (below_step hb26 hb7)⟩
        rw [HRn.out]
        exact ⟨by simp, by simp, .inl ⟨rfl, rfl⟩⟩
      · have hown6' : w6.ownsRow w2.heap.size 9 1 (.slice (some ⟨g6, 0, none⟩) (compactL (sortL (clubsL fs))).length cap6) ((compactL (sortL (clubsL fs))).map sRow).length ((compactL (sortL (clubsL fs))).map sRow).flatten := by
          rw [flatten_single, List.length_map]; exact hown6
        obtain ⟨hr6, -⟩ := RowsAt.of_owns (rows := (compactL (sortL (clubsL fs))).map sRow) hown6' (by simp)
        have hcl : (compactL (sortL (clubsL fs))).length ≤ 1000000 := by
          have h1 := compactL_le (sortL (clubsL fs))
          rw [sortL_length] at h1
          have := HT.out _ rfl
          omega
        have D := Lib.hid (deleteS_calls 111 #[.pointer (some ⟨w4.heap.size, 0, none⟩)] (fun c => (lkA (bgL week fs) c).isSome) w2.heap.size g6 0 cap6 _ w6 hr6 hcl hcap6 hgW (enters_of Tryz.func111 (by kernel_rfl) rfl) fun W k hk hg => HK.out W k _ hk hg hne)
        have hn6 : (compactL (sortL (clubsL fs))).length = (compactL (sortL (clubsL fs))).length := rfl
        generalize compactL (sortL (clubsL fs)) = CL at D HR' hn6
        clear hown6 hown6' hr6 hgh hcap6 hne hcl HK hn6
        go_wp2_with fail
        refine D.out.mono ?_
        rintro e w7 ⟨v7, rfl, hS7, hg7⟩
        rw [← HR'.out] at hS7
        have HS7 := Lib.hid hS7
        have hb7 : Below w2.heap.size w2 w7 := hb26.grown hg7 hb26.size fun r hr => by cases hr; exact hgW
        clear hS7 hg7 D
        go_wp2_with fail
        go_ret2
        exact ⟨_, HS7.out.mono hb2.size, by rw [Hz.out]; rfl, below_step hb2 hb7⟩
    · simp only [Value.slice.injEq, true_and] at h1
      obtain ⟨rfl, rfl⟩ := h1
      have Hc := Lib.hid hcell
      clear hF2 hcell
      go_wp2_with fail
      go_loopw [7, 23] (fun out i wr => ∃ k : Nat, k ≤ fs.length ∧ i = .int .i64 k ∧ OwnS wr w2.heap.size out (clubsL (fs.take k)) ∧ Below w2.heap.size w2 wr) (fun _ i _ => fs.length - (intOf i).toNat)
      case atStart => exact ⟨0, Nat.zero_le _, rfl, World.ownsRow_nil _ _ _ _, Below.refl _ _⟩
      case round =>
        obtain ⟨k, hk, rfl, hown, hbb⟩ := hrel
        by_cases hlt : k < fs.length
        · obtain ⟨f, hf⟩ : ∃ f, fs[k]? = some f := ⟨fs[k], List.getElem?_eq_getElem hlt⟩
          have Hs := Lib.hid (clubsL_snoc hf)
          obtain ⟨q0, q1, q2, q3⟩ := Hc.out k f hf
          have g0 := below_cell hbb q0
          have g1 := below_cell hbb q1
          have g2 := below_cell hbb q2
          have g3 := below_cell hbb q3
          have hle : (clubsL (fs.take k)).length ≤ 1000000 := by
            rw [clubsL_length]
            have h2 := List.length_take_le k fs
            omega
          generalize clubsL (fs.take k) = L at Hs hown hle
          have hbb' := below_step hbb (below_alloc wr (.cells #[.int .i64 f.week, .int .i64 f.moment, .string f.home, .string f.away] 72))
          have hown' : OwnS _ w2.heap.size _ L := World.ownsRow.alloc hown (.cells #[.int .i64 f.week, .int .i64 f.moment, .string f.home, .string f.away] 72)
          have hwr := hbb.size
          clear hf q0 q1 q2 q3 hbb hown
          go_wp2_with (at_builtin; refine wpList_append_own _ rfl _ _ 35 rfl w2.heap.size 9 i0 (.string ⟨#[]⟩) 1 16 Tryz.underlying35 hi hz0 hz1 hz2 rfl (by decide) _ _ _ rfl (World.ownsRow.alloc hown' _) ⟨wr.heap.size + 1, 0, none⟩ 2 2 [.string f.home, .string f.away] rfl rfl ?c1 ?c2 ?c3 ?c4 ?c5 ?_)
          case c1 =>
            have := cell_two_new (wr.alloc (.cells #[.int .i64 f.week, .int .i64 f.moment, .string f.home, .string f.away] 72)) (.string f.home) (.string f.away) 9
            simpa using this
          case c2 => simp [Value.oneCell']
          case c3 => unfold maxLen; omega
          case c4 => omega
          case c5 => simp; omega
          intro v' w6 hown6 hgrow _
          have hown6' : OwnS w6 w2.heap.size v' (L ++ [f.home, f.away]) := by unfold OwnS; simpa using hown6
          have hbb6 : Below w2.heap.size w2 w6 := (below_step hbb' (below_alloc _ _)).grown hgrow (by simp; omega) fun r hr => (own_block hown' r hr).1
          clear hown6 hgrow hbb' hown'
          go_wp2_with fail
          go_roundw
          case rel => exact ⟨k + 1, by omega, by go_num, by rw [Hs.out]; exact hown6', hbb6⟩
          case measure => simp [intOf]; omega
        · obtain rfl : k = fs.length := by omega
          have hT := List.take_length (l := fs)
          rw [hT] at hown
          have Hown := Lib.hid hown
          have C1 := Lib.hid (sortS_calls w2.heap.size _ _ wr hown (HT.out _ rfl))
          obtain ⟨la, lb, lcc, rfl⟩ : ∃ a n c, u7 = .slice a n c := by obtain ⟨a, c, h⟩ := owns_shape hown; exact ⟨_, _, _, h⟩
          clear hown hT
          go_wp2_with fail
          refine C1.out.mono ?_
          rintro e w3 ⟨rfl, hown3, hg3⟩
          have hb3 : Below w2.heap.size w2 w3 := hbb.grown hg3 hbb.size fun r hr => (own_block Hown.out r hr).1
          have C2 := HC3.out w3 hb3
          clear C1 hg3 Hown hbb
          go_wp2_with fail
          refine C2.mono ?_
          rintro e w4 ⟨b, n, rfl, hB4, hb4w, hb4⟩
          have hown4 : OwnS w4 w2.heap.size _ (sortL (clubsL fs)) := World.ownsRow.kept hown3 (gb_below hb4 none) (by cases hv : Value.ownBlock _ <;> simp)
          have hb24 := below_step hb3 hb4
          have hr4 : ∀ r, Value.ownBlock (.slice la lb lcc) = some r → r < w3.heap.size := fun r hr => by obtain ⟨_, cur, h⟩ := own_block hown3 r hr; exact lt_of_heap h
          clear C2 hown3
          have hb4s := hb4.size
          have hB5 := hB4.kept (gb_alloc w4 (.cells #[.map (some b)] 123) none) (by simp)
          have hc5 : (w4.alloc (.cells #[.map (some b)] 123)).cell? ⟨w4.heap.size, 0, none⟩ = some (.map (some b)) := by rw [World.cell?_alloc_at _ _ _ _ rfl]; rfl
          have hown5 : OwnS _ w2.heap.size _ _ := World.ownsRow.alloc hown4 (.cells #[.map (some b)] 123)
          have hb25 := below_step hb24 (below_alloc w4 (.cells #[.map (some b)] 123))
          have C3 := Lib.hid (compactS_calls w2.heap.size _ _ _ hown5 (by rw [sortL_length]; exact HT.out _ rfl))
          have hr5 : ∀ r, Value.ownBlock (.slice la lb lcc) = some r → w2.heap.size ≤ r := fun r hr => (own_block hown5 r hr).1
          clear hown4 hb24 hB4 hown5
          go_wp2_with fail
          refine C3.out.mono ?_
          rintro e w6 ⟨v6, rfl, hown6, hg6, hob⟩
          have hne : ∀ r, Value.ownBlock (.slice la lb lcc) = some r → r ≠ b ∧ r ≠ w4.heap.size := fun r hr => by have := hr4 r hr; omega
          have hB6 := hB5.kept hg6 (fun e => (hne b e.symm).1 rfl)
          have hc6 : w6.cell? ⟨w4.heap.size, 0, none⟩ = some (.map (some b)) := hg6.cell hc5 (fun e => (hne _ e.symm).2 rfl)
          have hb26 : Below w2.heap.size w2 w6 := hb25.grown hg6 hb25.size hr5
          rw [← hob] at hne
          clear C3 hB5 hc5 hg6 hob hr4 hr5 hb25
          have HK := Lib.hid (show ∀ (W : World) (k : ByteArray) (row : Option Nat), k ∈ compactL (sortL (clubsL fs)) → w6.grownBy W row → (∀ r, row = some r → r ≠ b ∧ r ≠ w4.heap.size) → Calls Tryz.prog 111 (#[.string k] ++ #[.pointer (some ⟨w4.heap.size, 0, none⟩)]) W (BoolIs (lkA (bgL week fs) k).isSome W) from fun W k row hk hg hr =>
            idle1_calls _ b n _ k W (hg.cell hc6 fun e => (hr _ e.symm).2 rfl) (hB6.kept hg fun e => (hr _ e.symm).1 rfl) (clubsL_small Hok.out (mem_cs hk)))
          clear hc6 hB6
          rcases hown6.2 with ⟨rfl, h0⟩ | ⟨g6, cap6, cur6, rfl, hgW, hgh, hcap6, _⟩
          · have hnil : compactL (sortL (clubsL fs)) = [] := List.eq_nil_of_length_eq_zero h0
            have HRn := Lib.hid (show R = [] by rw [HR'.out, hnil]; rfl)
            have D := Lib.hid (deleteS0_calls 111 #[.pointer (some ⟨w4.heap.size, 0, none⟩)] w6 (enters_of Tryz.func111 (by kernel_rfl) rfl))
            clear hown6 hnil h0 hne
            go_wp2_with fail
            refine D.out.mono ?_
            rintro e w7 ⟨rfl, hb7⟩
            go_wp2_with fail
            go_ret2
            refine ⟨_, ?_, by rw [Hz.out]; rfl, below_step hb2 (below_step hb26 hb7)⟩
            rw [HRn.out]
            exact ⟨by simp, by simp, .inl ⟨rfl, rfl⟩⟩
          · have hown6' : w6.ownsRow w2.heap.size 9 1 (.slice (some ⟨g6, 0, none⟩) (compactL (sortL (clubsL fs))).length cap6) ((compactL (sortL (clubsL fs))).map sRow).length ((compactL (sortL (clubsL fs))).map sRow).flatten := by
              rw [flatten_single, List.length_map]; exact hown6
            obtain ⟨hr6, -⟩ := RowsAt.of_owns (rows := (compactL (sortL (clubsL fs))).map sRow) hown6' (by simp)
            have hcl : (compactL (sortL (clubsL fs))).length ≤ 1000000 := by
              have h1 := compactL_le (sortL (clubsL fs))
              rw [sortL_length] at h1
              have := HT.out _ rfl
              omega
            have D := Lib.hid (deleteS_calls 111 #[.pointer (some ⟨w4.heap.size, 0, none⟩)] (fun c => (lkA (bgL week fs) c).isSome) w2.heap.size g6 0 cap6 _ w6 hr6 hcl hcap6 hgW (enters_of Tryz.func111 (by kernel_rfl) rfl) fun W k hk hg => HK.out W k _ hk hg hne)
            have hn6 : (compactL (sortL (clubsL fs))).length = (compactL (sortL (clubsL fs))).length := rfl
            generalize compactL (sortL (clubsL fs)) = CL at D HR' hn6
            clear hown6 hown6' hr6 hgh hcap6 hne hcl HK hn6
            go_wp2_with fail
            refine D.out.mono ?_
            rintro e w7 ⟨v7, rfl, hS7, hg7⟩
            rw [← HR'.out] at hS7
            have HS7 := Lib.hid hS7
            have hb7 : Below w2.heap.size w2 w7 := hb26.grown hg7 hb26.size fun r hr => by cases hr; exact hgW
            clear hS7 hg7 D
            go_wp2_with fail
            go_ret2
            exact ⟨_, HS7.out.mono hb2.size, by rw [Hz.out]; rfl, below_step hb2 hb7⟩
  · have e1 : (E != 0) = true := by simp [hz]
    have HR' := Lib.hid (show R = [] by rw [HR.out, if_neg hz])
    clear hz
    go_wp2_with fail
    go_ret2
    refine ⟨_, ?_, rfl, hb2⟩
    rw [HR'.out]
    exact ⟨by simp, by simp, .inl ⟨rfl, rfl⟩⟩
end Go.Proofs.YtmjkbmkjnbpgeaaGreatDoor
namespace Go.Proofs.YtmjkbmkjnbpgeaaGreatDoor
open Go.RowKit

/-- Has a club no game? -/
def idleB (fs : List FD) (week : Int) (c : ByteArray) : Bool := (fs.filter (meets week c)).isEmpty
def idlesL (fs : List FD) (week : Int) : List ByteArray := (clubsL fs).filter (idleB fs week)
set_option maxRecDepth 100000 in
set_option maxHeartbeats 4000000 in
theorem idleOf_calls (lo : Nat) (v : Value) (fs : List FD) (week : Int) (w : World) (hF : Fxs w lo v fs) (hn : fs.length ≤ 10000) :
    Calls Tryz.prog 42 #[v, .int .i64 week] w (MadeS (compactL (sortL (idlesL fs week))) w) := by
  obtain ⟨i0, hi, hz0, hz1, hz2⟩ := info_parts info_str
  have HF := Lib.hid hF
  obtain ⟨fa, fc, rfl⟩ := fxs_shape hF
  have HG := Lib.hid (show ∀ (c : ByteArray) (w3 : World), Below w.heap.size w w3 → Calls Tryz.prog 41 #[.slice fa fs.length fc, .string c, .int .i64 week] w3 (MadeFx (fs.filter (meets week c)) w3) from fun c w3 hb => gamesOf_calls lo _ fs c week w3 (HF.out.below hb) hn)
  have HLn : ∀ k, (((clubsL (fs.take k)).filter (idleB fs week)).length ≤ 2 * k) := fun k => by
    have h1 := List.length_filter_le (idleB fs week) (clubsL (fs.take k))
    rw [clubsL_length] at h1
    have h2 := List.length_take_le k fs
    omega
  have HLN := Lib.hid HLn
  clear HLn
  rcases fxs_at hF with ⟨h1, h2⟩ | ⟨g, off, cap, h1, hlo, hg, hn1, hcell⟩
  · subst h2
    obtain ⟨rfl, rfl⟩ : fa = none ∧ fc = 0 := by simpa using h1
    have HL := Lib.hid (show compactL (sortL (idlesL [] week)) = [] by simp [idlesL, clubsL, sortL]; rfl)
    have C1 := Lib.hid (sortS_calls w.heap.size (.slice none 0 0) [] w (World.ownsRow_nil _ _ _ _) (by simp))
    clear hF h1
    rw [HL.out]
    go_enter Tryz.func42, Tryz.ntmps42
    go_wp2_with fail
    refine wp_loop_rounds 1 ?_
    rw [rounds_succ]
    go_wp2_with fail
    refine C1.out.mono ?_
    rintro e w1 ⟨rfl, hown, hg⟩
    have hb1 : Below w.heap.size w w1 := (Below.refl w.heap.size w).grown hg (Nat.le_refl _) fun r hr => by simp [Value.ownBlock] at hr
    rw [show sortL [] = [] by simp [sortL]] at hown
    have C2 := Lib.hid (compactS_calls w.heap.size _ _ w1 hown (by simp))
    clear C1 hg hown
    go_wp2_with fail
    refine C2.out.mono ?_
    rintro e w2 ⟨v2, rfl, hown2, hg2, _⟩
    have hb2 : Below w.heap.size w w2 := hb1.grown hg2 hb1.size fun r hr => by simp [Value.ownBlock] at hr
    have Hown2 := Lib.hid hown2
    clear C2 hg2 hown2
    go_wp2_with fail
    go_ret
    exact ⟨_, Hown2.out, rfl, hb2⟩
  · simp only [Value.slice.injEq, true_and] at h1
    obtain ⟨rfl, rfl⟩ := h1
    have Hc := Lib.hid hcell
    clear hF hcell
    go_enter Tryz.func42, Tryz.ntmps42
    go_wp2_with fail
    go_loopw [5, 12] (fun out i wr => ∃ k : Nat, k ≤ fs.length ∧ i = .int .i64 k ∧ OwnS wr w.heap.size out ((clubsL (fs.take k)).filter (idleB fs week)) ∧ Below w.heap.size w wr) (fun _ i _ => fs.length - (intOf i).toNat)
    case atStart => exact ⟨0, Nat.zero_le _, rfl, World.ownsRow_nil _ _ _ _, Below.refl _ _⟩
    case round =>
      obtain ⟨k, hk, rfl, hown, hb⟩ := hrel
      by_cases hlt : k < fs.length
      · obtain ⟨f, hf⟩ : ∃ f, fs[k]? = some f := ⟨fs[k], List.getElem?_eq_getElem hlt⟩
        have Hs := Lib.hid (show (clubsL (fs.take (k + 1))).filter (idleB fs week) = (clubsL (fs.take k)).filter (idleB fs week) ++ [f.home, f.away].filter (idleB fs week) by rw [clubsL_snoc hf, List.filter_append])
        obtain ⟨q0, q1, q2, q3⟩ := Hc.out k f hf
        have g0 := below_cell hb q0
        have g1 := below_cell hb q1
        have g2 := below_cell hb q2
        have g3 := below_cell hb q3
        have hle := HLN.out k
        generalize (clubsL (fs.take k)).filter (idleB fs week) = L at Hs hown hle
        obtain ⟨W, hW⟩ : ∃ W, W = (wr.alloc (.cells #[.int .i64 f.week, .int .i64 f.moment, .string f.home, .string f.away] 72)).alloc (.cells #[.string f.home, .string f.away] 9) := ⟨_, rfl⟩
        have hwW : Below wr.heap.size wr W := by rw [hW]; exact below2 wr _ _
        have y0 : W.cell? ⟨wr.heap.size + 1, 0, none⟩ = some (.string f.home) := by rw [hW, World.cell?_alloc_at _ _ _ _ (by simp)]; rfl
        have y1 : W.cell? ⟨wr.heap.size + 1, 1, none⟩ = some (.string f.away) := by rw [hW, World.cell?_alloc_at _ _ _ _ (by simp)]; rfl
        have hownW : OwnS W w.heap.size _ L := World.ownsRow.kept hown (gb_below hwW none) (by cases hv : Value.ownBlock _ <;> simp)
        have hbW := below_step hb hwW
        have hro : ∀ r, u5.ownBlock = some r → r < wr.heap.size := fun r hr => by obtain ⟨_, cur, h⟩ := own_block hown r hr; exact lt_of_heap h
        clear hf q0 q1 q2 q3 hown
        go_upto_region 6 with fail
        rw [← hW]
        obtain ⟨Y, hY⟩ : ∃ Y, Y = wr.heap.size + 1 := ⟨_, rfl⟩
        rw [← hY] at y0 y1 ⊢
        have hoY0 : u5.ownBlock ≠ some Y := fun e => by have := hro _ e; omega
        clear hW hro hwW hY
        go_loopw [5, 22] (fun out i wi => ∃ t : Nat, t ≤ 2 ∧ i = .int .i64 t ∧ OwnS wi w.heap.size out (L ++ ([f.home, f.away].take t).filter (idleB fs week)) ∧ out.ownBlock ≠ some Y ∧ Below w.heap.size w wi ∧ wi.cell? ⟨Y, 0, none⟩ = some (.string f.home) ∧ wi.cell? ⟨Y, 1, none⟩ = some (.string f.away)) (fun _ i _ => 2 - (intOf i).toNat)
        case atStart => exact ⟨0, by omega, rfl, by simpa using hownW, hoY0, hbW, y0, y1⟩
        case round =>
          clear hownW y0 y1 hoY0 hbW
          obtain ⟨t, ht, rfl, hownI, hoY, hbi, y0, y1⟩ := hrel
          by_cases ht0 : t = 0
          · subst ht0
            have HQ := Lib.hid (show ([f.home, f.away].take (0 + 1)).filter (idleB fs week) = ([f.home, f.away].take 0).filter (idleB fs week) ++ (if idleB fs week f.home then [f.home] else []) by simp [List.filter_cons]; try (cases idleB fs week f.home <;> cases idleB fs week f.away <;> rfl))
            go_wp2_with fail
            refine (HG.out f.home _ hbi).mono ?_
            rintro e w2 ⟨vg, hFg, rfl, hb2⟩
            obtain ⟨ga, gc, rfl⟩ := fxs_shape hFg
            have hown2 : OwnS w2 w.heap.size _ _ := World.ownsRow.kept hownI (gb_below hb2 none) (by cases hv : Value.ownBlock _ <;> simp)
            have hbi2 := below_step hbi hb2
            have z0 := below_cell hb2 y0
            have z1 := below_cell hb2 y1
            have hYl : Y < w2.heap.size := by have := World.block_lt_of_cell? _ _ z0; exact this
            have hI := Lib.hid (show idleB fs week f.home = (fs.filter (meets week f.home)).isEmpty from rfl)
            generalize fs.filter (meets week f.home) = GG at hI hFg
            clear hFg hb2 hownI hbi y0 y1
            cases hq : idleB fs week f.home
            · have Hq := Lib.hid (show ([f.home, f.away].take (0 + 1)).filter (idleB fs week) = ([f.home, f.away].take 0).filter (idleB fs week) by rw [HQ.out, hq]; simp)
              have hg0 : GG.length ≠ 0 := by
                have := hI.out; rw [hq] at this
                intro e
                rw [List.eq_nil_of_length_eq_zero e] at this
                cases this
              have hg1 : ((GG.length : Int) == 0) = false := by rw [beq_eq_false_iff_ne]; omega
              clear hq
              go_wp2_with fail
              go_roundw
              case rel => exact ⟨0 + 1, by omega, by go_num, by rw [Hq.out]; exact hown2, hoY, hbi2, z0, z1⟩
              case measure => simp [intOf]
            · have Hq := Lib.hid (show ([f.home, f.away].take (0 + 1)).filter (idleB fs week) = ([f.home, f.away].take 0).filter (idleB fs week) ++ [f.home] by rw [HQ.out, hq]; simp)
              have hg0 : GG.length = 0 := by
                have := hI.out; rw [hq] at this
                cases GG with
                | nil => rfl
                | cons x xs => cases this
              have hle2 : (([f.home, f.away].take 0).filter (idleB fs week)).length ≤ 2 := Nat.le_trans (List.length_filter_le _ _) (by simp)
              generalize ([f.home, f.away].take 0).filter (idleB fs week) = M at Hq hown2 hle2
              have hbw2 := hbi2.size
              clear hq
              go_wp2_with (at_builtin; refine wpList_append_own_at _ rfl _ _ 35 rfl w.heap.size 9 i0 (.string ⟨#[]⟩) 1 16 Tryz.underlying35 hi hz0 hz1 hz2 rfl (by decide) _ _ _ rfl (World.ownsRow.alloc hown2 _) ⟨w2.heap.size, 0, none⟩ 1 1 [.string f.home] rfl rfl ?c1 ?c2 ?c3 ?c4 ?c5 ?_)
              case c1 => exact cell_one_new _ _ _
              case c2 => simp [Value.oneCell']
              case c3 => unfold maxLen; simp; omega
              case c4 => simp; omega
              case c5 => simp; omega
              intro v' w6 hown6 hgrow _ hloc
              have hown6' : OwnS w6 w.heap.size v' (L ++ (M ++ [f.home])) := by unfold OwnS; simpa [Nat.add_assoc] using hown6
              have hbi6 : Below w.heap.size w w6 := (below_step hbi2 (below_alloc w2 _)).grown hgrow (by simp; omega) fun r hr => (own_block hown2 r hr).1
              have hoY6 : v'.ownBlock ≠ some Y := by
                rcases hloc with h | h
                · rw [h]; exact hoY
                · rw [h]; intro e; have := Option.some.inj e; first | omega | (simp at this; omega)
              have u0 := hgrow.cell (below_cell (below_alloc w2 (.cells #[.string f.home] 9)) z0) (fun e => hoY e.symm)
              have u1 := hgrow.cell (below_cell (below_alloc w2 (.cells #[.string f.home] 9)) z1) (fun e => hoY e.symm)
              clear hown6 hgrow hown2 hbi2 z0 z1 hloc
              go_wp2_with fail
              go_roundw
              case rel => exact ⟨0 + 1, by omega, by go_num, by rw [Hq.out]; exact hown6', hoY6, hbi6, u0, u1⟩
              case measure => simp [intOf]
          · by_cases ht1 : t = 1
            · subst ht1
              have HQ := Lib.hid (show ([f.home, f.away].take (1 + 1)).filter (idleB fs week) = ([f.home, f.away].take 1).filter (idleB fs week) ++ (if idleB fs week f.away then [f.away] else []) by simp [List.filter_cons]; try (cases idleB fs week f.home <;> cases idleB fs week f.away <;> rfl))
              go_wp2_with fail
              refine (HG.out f.away _ hbi).mono ?_
              rintro e w2 ⟨vg, hFg, rfl, hb2⟩
              obtain ⟨ga, gc, rfl⟩ := fxs_shape hFg
              have hown2 : OwnS w2 w.heap.size _ _ := World.ownsRow.kept hownI (gb_below hb2 none) (by cases hv : Value.ownBlock _ <;> simp)
              have hbi2 := below_step hbi hb2
              have z0 := below_cell hb2 y0
              have z1 := below_cell hb2 y1
              have hYl : Y < w2.heap.size := by have := World.block_lt_of_cell? _ _ z0; exact this
              have hI := Lib.hid (show idleB fs week f.away = (fs.filter (meets week f.away)).isEmpty from rfl)
              generalize fs.filter (meets week f.away) = GG at hI hFg
              clear hFg hb2 hownI hbi y0 y1
              cases hq : idleB fs week f.away
              · have Hq := Lib.hid (show ([f.home, f.away].take (1 + 1)).filter (idleB fs week) = ([f.home, f.away].take 1).filter (idleB fs week) by rw [HQ.out, hq]; simp)
                have hg0 : GG.length ≠ 0 := by
                  have := hI.out; rw [hq] at this
                  intro e
                  rw [List.eq_nil_of_length_eq_zero e] at this
                  cases this
                have hg1 : ((GG.length : Int) == 0) = false := by rw [beq_eq_false_iff_ne]; omega
                clear hq
                go_wp2_with fail
                go_roundw
                case rel => exact ⟨1 + 1, by omega, by go_num, by rw [Hq.out]; exact hown2, hoY, hbi2, z0, z1⟩
                case measure => simp [intOf]
              · have Hq := Lib.hid (show ([f.home, f.away].take (1 + 1)).filter (idleB fs week) = ([f.home, f.away].take 1).filter (idleB fs week) ++ [f.away] by rw [HQ.out, hq]; simp)
                have hg0 : GG.length = 0 := by
                  have := hI.out; rw [hq] at this
                  cases GG with
                  | nil => rfl
                  | cons x xs => cases this
                have hle2 : (([f.home, f.away].take 1).filter (idleB fs week)).length ≤ 2 := Nat.le_trans (List.length_filter_le _ _) (by simp)
                generalize ([f.home, f.away].take 1).filter (idleB fs week) = M at Hq hown2 hle2
                have hbw2 := hbi2.size
                clear hq
                go_wp2_with (at_builtin; refine wpList_append_own_at _ rfl _ _ 35 rfl w.heap.size 9 i0 (.string ⟨#[]⟩) 1 16 Tryz.underlying35 hi hz0 hz1 hz2 rfl (by decide) _ _ _ rfl (World.ownsRow.alloc hown2 _) ⟨w2.heap.size, 0, none⟩ 1 1 [.string f.away] rfl rfl ?c1 ?c2 ?c3 ?c4 ?c5 ?_)
                case c1 => exact cell_one_new _ _ _
                case c2 => simp [Value.oneCell']
                case c3 => unfold maxLen; simp; omega
                case c4 => simp; omega
                case c5 => simp; omega
                intro v' w6 hown6 hgrow _ hloc
                have hown6' : OwnS w6 w.heap.size v' (L ++ (M ++ [f.away])) := by unfold OwnS; simpa [Nat.add_assoc] using hown6
                have hbi6 : Below w.heap.size w w6 := (below_step hbi2 (below_alloc w2 _)).grown hgrow (by simp; omega) fun r hr => (own_block hown2 r hr).1
                have hoY6 : v'.ownBlock ≠ some Y := by
                  rcases hloc with h | h
                  · rw [h]; exact hoY
                  · rw [h]; intro e; have := Option.some.inj e; first | omega | (simp at this; omega)
                have u0 := hgrow.cell (below_cell (below_alloc w2 (.cells #[.string f.away] 9)) z0) (fun e => hoY e.symm)
                have u1 := hgrow.cell (below_cell (below_alloc w2 (.cells #[.string f.away] 9)) z1) (fun e => hoY e.symm)
                clear hown6 hgrow hown2 hbi2 z0 z1 hloc
                go_wp2_with fail
                go_roundw
                case rel => exact ⟨1 + 1, by omega, by go_num, by rw [Hq.out]; exact hown6', hoY6, hbi6, u0, u1⟩
                case measure => simp [intOf]
            · obtain rfl : t = 2 := by omega
              have hown2 := hownI
              rw [show [f.home, f.away].take 2 = [f.home, f.away] from rfl] at hown2
              clear hownI
              go_wp2_with fail
              go_roundw
              case rel => exact ⟨k + 1, by omega, by go_num, by rw [Hs.out]; exact hown2, hbi⟩
              case measure => simp [intOf]; omega
      · obtain rfl : k = fs.length := by omega
        have hT := List.take_length (l := fs)
        rw [hT] at hown
        have hl1 := HLN.out fs.length
        rw [hT] at hl1
        have HI := Lib.hid (show idlesL fs week = (clubsL fs).filter (idleB fs week) from rfl)
        rw [← HI.out] at hown hl1
        have Hown := Lib.hid hown
        have C1 := Lib.hid (sortS_calls w.heap.size _ _ wr hown (by omega))
        obtain ⟨la, lb, lcc, rfl⟩ : ∃ a n c, u5 = .slice a n c := by obtain ⟨a, c, h⟩ := owns_shape hown; exact ⟨_, _, _, h⟩
        clear hown hT
        go_wp2_with fail
        refine C1.out.mono ?_
        rintro e w3 ⟨rfl, hown3, hg3⟩
        have hb3 : Below w.heap.size w w3 := hb.grown hg3 hb.size fun r hr => (own_block Hown.out r hr).1
        have C2 := Lib.hid (compactS_calls w.heap.size _ _ w3 hown3 (by rw [sortL_length]; omega))
        have Hr := Lib.hid (own_block hown3)
        clear C1 hg3 hown3
        go_wp2_with fail
        refine C2.out.mono ?_
        rintro e w4 ⟨v4, rfl, hown4, hg4, _⟩
        have hb4 : Below w.heap.size w w4 := hb3.grown hg4 hb3.size fun r hr => (Hr.out r hr).1
        have Hown4 := Lib.hid hown4
        clear C2 hg4 hown4
        go_wp2_with fail
        go_ret
        exact ⟨_, Hown4.out, rfl, hb4⟩
end Go.Proofs.YtmjkbmkjnbpgeaaGreatDoor
