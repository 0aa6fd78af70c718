/- CheckFixtures; firsts, which fills a map. Games. -/
import Derived.Test.YtmjkbmkjnbpgeaaGreatDoorFa
import Derived.Test.YtmjkbmkjnbpgeaaGreatDoorFxh
import Derived.Maps.OwnSet
import Derived.StringKeys
import Derived.Test.YtmjkbmkjnbpgeaaGreatDoorBh
namespace Go.Proofs.YtmjkbmkjnbpgeaaGreatDoor
open Go.RowKit Go.Maps

theorem checkFx1_calls (cl g off cap i lo : Nat) (fs : List FD) (f : FD) (w : World) (hi : fs[i]? = some f) (hs : OkF f) (hn : fs.length ≤ 1000000)
    (h1 : w.cell? ⟨cl, 0, none⟩ = some (.slice (some ⟨g, off, none⟩) fs.length cap)) (hS : Fxs w lo (.slice (some ⟨g, off, none⟩) fs.length cap) fs) :
    Calls Tryz.prog 115 #[.int .i64 (i : Int), .pointer (some ⟨cl, 0, none⟩)] w (IntBelow (fxF fs i) w) := by
  by_cases hz : i = 0
  · exact checkFx0_calls cl g off cap i lo fs f w hi hz hs hn h1 hS
  · exact checkFxN_calls cl g off cap i lo fs f w hi hz hs hn h1 hS
set_option maxRecDepth 100000 in
set_option maxHeartbeats 1000000 in
theorem checkFixtures_calls (lo : Nat) (v : Value) (fs : List FD) (w : World) (hF : Fxs w lo v fs) (hok : ∀ f ∈ fs, OkF f) (hn : fs.length ≤ 1000000) :
    Calls Tryz.prog 43 #[v] w (IntBelow (chkFx fs) w) := by
  obtain ⟨fa, fc, rfl⟩ := fxs_shape hF
  obtain ⟨W, hW⟩ : ∃ W, W = w.alloc (.cells #[.slice fa fs.length fc] 51) := ⟨_, rfl⟩
  have hwW : Below w.heap.size w W := by rw [hW]; exact below_alloc w _
  have x0 : W.cell? ⟨w.heap.size, 0, none⟩ = some (.slice fa fs.length fc) := by rw [hW, World.cell?_alloc_at _ _ _ _ rfl]; rfl
  have hFW := hF.below hwW
  have hf : ∀ (W2 : World) (i : Nat), i < fs.length → Below W.heap.size W W2 → Calls Tryz.prog 115 (#[.int .i64 (i : Int)] ++ #[.pointer (some ⟨w.heap.size, 0, none⟩)]) W2 (IntBelow (fxF fs i) W2) := by
    intro W2 i hi hb
    obtain ⟨f, hfi⟩ : ∃ f, fs[i]? = some f := ⟨fs[i], List.getElem?_eq_getElem hi⟩
    have hF2 := hFW.below hb
    have y0 := below_cell hb x0
    rcases fxs_at hF2 with ⟨_, rfl⟩ | ⟨g, off, cap, e, _⟩
    · simp at hi
    · rw [e] at hF2 y0
      exact checkFx1_calls w.heap.size g off cap i lo fs f W2 hfi (hok f (List.mem_of_getElem? hfi)) hn y0 hF2
  have C := Lib.hid (each_calls 115 #[.pointer (some ⟨w.heap.size, 0, none⟩)] (enters_of Tryz.func115 (by kernel_rfl) rfl) (fxF fs) fs.length 1000 W hn hf)
  have HR := Lib.hid (show chkFx fs = eachE fs.length 1000 (fxF fs) from rfl)
  generalize chkFx fs = R at HR ⊢
  clear hf hFW hF
  go_enter Tryz.func43, Tryz.ntmps43
  go_upto_region 1 with fail
  rw [← hW]
  clear hW
  go_wp2_with fail
  refine C.out.mono ?_
  rintro e w' ⟨rfl, hb⟩
  go_wp2_with fail
  go_ret
  exact ⟨ret_int HR.out.symm, below_step hwW hb⟩

/-- The map's key. -/
def kL (k : ByteArray) : Lit := .string k.data.toList
theorem kL_key {k : ByteArray} (h : k.size ≤ 1000000) : keyOf Tryz.prog 9 (.string k) = some (kL k) := WideMaps.keyOf_string_mk Tryz.underlying9 (by unfold maxLen; omega)
theorem kL_inj {a b : ByteArray} (h : kL a = kL b) : a = b := by
  have := Lit.string.inj h
  cases a with | mk x => cases b with | mk y => exact congrArg ByteArray.mk (Array.toList_inj.1 this)
theorem kL_is (k : ByteArray) : WideAt.IsKeyLit (kL k) := by trivial
/-- What stands first at a key. -/
def lkA (l : List (ByteArray × Int)) (k : ByteArray) : Option Int := (l.find? fun p => beqS p.1 k).map (·.2)
/-- The map in block b reads as the first ones of a list. -/
def Begins (w : World) (b n : Nat) (l : List (ByteArray × Int)) : Prop :=
  ∃ D : DataW Unit, w.ownsMap Tryz.prog 9 (plainElem Tryz.prog 3) b n D ∧ ∀ k, Maps.has D (kL k) = (lkA l k).isSome ∧ D.atKey (kL k) (.lit (.int .i64 0)) = .lit (.int .i64 ((lkA l k).getD 0))

theorem zero_int (w : World) : (zeroValue 3).run Tryz.prog w = .ok (.int .i64 0) w := by kernel_rfl
theorem lawS : Keyed Tryz.prog 9 := string_keyed Tryz.underlying9
theorem Begins.kept {w w' : World} {b n : Nat} {l : List (ByteArray × Int)} {row : Option Nat} (h : Begins w b n l) (hg : w.grownBy w' row) (hne : some b ≠ row) : Begins w' b n l := by
  obtain ⟨D, h1, h2⟩ := h
  exact ⟨D, h1.kept hg hne, h2⟩
theorem Begins.lt {w : World} {b n : Nat} {l : List (ByteArray × Int)} (h : Begins w b n l) : b < w.heap.size := by
  obtain ⟨D, h1, _⟩ := h
  exact h1.lt
theorem lkA_snoc (l : List (ByteArray × Int)) (c : ByteArray) (x : Int) (k : ByteArray) : lkA (l ++ [(c, x)]) k = if (lkA l k).isSome then lkA l k else if beqS c k then some x else none := by
  unfold lkA
  rw [List.find?_append]
  cases h : l.find? fun p => beqS p.1 k with
  | some p => simp
  | none =>
    cases hb : beqS c k <;> simp [List.find?, hb]

set_option maxRecDepth 100000 in
set_option maxHeartbeats 2000000 in
theorem begin1_calls (c b n : Nat) (l : List (ByteArray × Int)) (club : ByteArray) (x : Int) (w : World) (hc : w.cell? ⟨c, 0, none⟩ = some (.map (some b))) (hB : Begins w b n l) (hn : n < 1000000) (hcl : club.size ≤ 1000000) (hx : (Lit.int .i64 x).wf = true) :
    Calls Tryz.prog 169 #[.string club, .int .i64 x, .pointer (some ⟨c, 0, none⟩)] w fun e w' => e = .returned (.tuple #[]) ∧ Begins w' b (n + 1) (l ++ [(club, x)]) ∧ w.grownBy w' (some b) := by
  obtain ⟨D, hown, hD⟩ := hB
  have hkey := kL_key hcl
  have HD := Lib.hid hD
  clear hD
  have hmm : n < maxLen := by unfold maxLen; omega
  cases hh : Maps.has D (kL club)
  · have Hh := Lib.hid hh
    go_enter Tryz.func169, Tryz.ntmps169
    go_wp2_with (first
      | (at_lookup; refine wpList_lookup_own_ok_int _ rfl _ _ 123 rfl 9 3 .i64 lawS Tryz.underlying123 Tryz.underlying3 (zero_int _) b n D rfl hown _ _ rfl hkey ?_; intro v hat hwc)
      | (at_mapUpdate; refine wpList_mapUpdate_own _ rfl _ _ _ 123 rfl 9 3 lawS Tryz.underlying123 _ b n D rfl hown hmm _ _ _ rfl rfl hkey _ [] (plainElem_int Tryz.underlying3 hx) ?_; intro w1 hown1 hgrow1)
      | go_in)
    go_end0
    refine ⟨rfl, ⟨_, hown1, fun k => ?_⟩, hgrow1⟩
    rw [lkA_snoc]
    by_cases hk : k = club
    · subst hk
      have h0 : (lkA l k).isSome = false := by rw [← (HD.out k).1]; exact Hh.out
      rw [has_put_same (hown.isMap) (kL_is _), atKey_put_same (hown.isMap) (kL_is _), h0, beqS_self]
      exact ⟨rfl, rfl⟩
    · have hne : kL k ≠ kL club := fun e => hk (kL_inj e)
      have hb : beqS club k = false := by
        cases hq : beqS club k
        · rfl
        · exact absurd (beqS_iff.1 hq).symm hk
      rw [has_put_other hne, atKey_put_other hne, hb, (HD.out k).1, (HD.out k).2]
      cases hl : lkA l k <;> simp
  · have Hh := Lib.hid hh
    go_enter Tryz.func169, Tryz.ntmps169
    go_wp2_with (first
      | (at_lookup; refine wpList_lookup_own_ok_int _ rfl _ _ 123 rfl 9 3 .i64 lawS Tryz.underlying123 Tryz.underlying3 (zero_int _) b n D rfl hown _ _ rfl hkey ?_; intro v hat hwc)
      | go_in)
    go_end0
    refine ⟨rfl, ⟨D, hown.mono (by omega), fun k => ?_⟩, gb_refl _ _⟩
    rw [lkA_snoc, (HD.out k).1, (HD.out k).2]
    by_cases hk : k = club
    · subst hk
      have h0 : (lkA l k).isSome = true := by rw [← (HD.out k).1]; exact Hh.out
      rw [h0]; simp [h0]
    · have hb : beqS club k = false := by
        cases hq : beqS club k
        · rfl
        · exact absurd (beqS_iff.1 hq).symm hk
      rw [hb]
      cases hl : lkA l k <;> simp
/-- The first ones of a week: club by club. -/
def bgL (week : Int) (fs : List FD) : List (ByteArray × Int) := fs.flatMap fun f => if f.week == week then [(f.home, f.moment), (f.away, f.moment)] else []
theorem bgL_snoc {week : Int} {fs : List FD} {k : Nat} {f : FD} (hk : fs[k]? = some f) : bgL week (fs.take (k + 1)) = bgL week (fs.take k) ++ (if f.week == week then [(f.home, f.moment), (f.away, f.moment)] else []) := by
  have hlt : k < fs.length := (List.getElem?_eq_some_iff.1 hk).1
  have e : fs.take (k + 1) = fs.take k ++ [f] := by
    rw [List.take_succ_eq_append_getElem hlt, (List.getElem?_eq_some_iff.1 hk).2]
  unfold bgL
  rw [e, List.flatMap_append]
  simp
def MadeMap (l : List (ByteArray × Int)) (w : World) (e : Ending) (w' : World) : Prop := ∃ b n, e = .returned (.map (some b)) ∧ Begins w' b n l ∧ w.heap.size ≤ b ∧ Below w.heap.size w w'
theorem wf_of {x : Int} (h0 : -1099511627776 ≤ x) (h1 : x ≤ 1099511627776) : (Lit.int .i64 x).wf = true := WalkArith.wf_i64 (by omega)
set_option maxRecDepth 100000 in
set_option maxHeartbeats 4000000 in
theorem firsts_calls (lo : Nat) (v : Value) (fs : List FD) (week : Int) (w : World) (hF : Fxs w lo v fs) (hok : ∀ f ∈ fs, OkF f) (hn : fs.length ≤ 10000) :
    Calls Tryz.prog 102 #[v, .int .i64 week] w (MadeMap (bgL week fs) w) := by
  have Hok := Lib.hid hok
  clear hok
  have hmm := @run_makeMap Tryz.prog
  obtain ⟨W, hW⟩ : ∃ W, W = (w.alloc (.map #[] 0)).alloc (.cells #[.map (some w.heap.size)] 123) := ⟨_, rfl⟩
  have hwW : Below w.heap.size w W := by rw [hW]; exact below2 w _ _
  have x0 : W.cell? ⟨w.heap.size + 1, 0, none⟩ = some (.map (some w.heap.size)) := by rw [hW, World.cell?_alloc_at _ _ _ _ (by simp)]; rfl
  have hB0 : Begins W w.heap.size 0 [] := by
    rw [hW]
    refine ⟨.map [], (World.ownsMap_made _ _ _ _).alloc _, fun k => ?_⟩
    simp [lkA, Maps.has]
    rfl
  rcases fxs_at hF with ⟨rfl, rfl⟩ | ⟨g, off, cap, rfl, hlo, hg, hn1, hcell⟩
  · clear hF
    go_enter Tryz.func102, Tryz.ntmps102
    go_upto_region 3 with fail
    rw [← hW]
    clear hW
    go_wp2_with fail
    refine wp_loop_rounds 1 ?_
    rw [rounds_succ]
    go_wp2_with fail
    go_ret
    exact ⟨_, 0, rfl, hB0, Nat.le_refl _, hwW⟩
  · have Hc := Lib.hid hcell
    clear hF hcell
    go_enter Tryz.func102, Tryz.ntmps102
    go_upto_region 3 with fail
    rw [← hW]
    clear hW
    go_wp2_with fail
    go_loopw [13] (fun i wr => ∃ (k n : Nat), k ≤ fs.length ∧ i = .int .i64 k ∧ n ≤ 2 * k ∧ Begins wr w.heap.size n (bgL week (fs.take k)) ∧ wr.cell? ⟨w.heap.size + 1, 0, none⟩ = some (.map (some w.heap.size)) ∧ Below w.heap.size w wr) (fun i _ => fs.length - (intOf i).toNat)
    case atStart => exact ⟨0, 0, Nat.zero_le _, rfl, by omega, hB0, x0, hwW⟩
    case round =>
      obtain ⟨k, n, hk, rfl, hnk, hB, hcw, hb⟩ := hrel
      clear hB0 x0
      by_cases hlt : k < fs.length
      · obtain ⟨f, hf⟩ : ∃ f, fs[k]? = some f := ⟨fs[k], List.getElem?_eq_getElem hlt⟩
        have hokf := Hok.out f (List.mem_of_getElem? hf)
        have Hs := Lib.hid (bgL_snoc (week := week) hf)
        obtain ⟨q0, q1, q2, q3⟩ := Hc.out k f hf
        have g0 := below_cell hb q0
        have g1 := below_cell hb q1
        have g2 := below_cell hb q2
        have g3 := below_cell hb q3
        have hlb := hB.lt
        have hbo := below_step hb (below_alloc wr (.cells #[.int .i64 f.week, .int .i64 f.moment, .string f.home, .string f.away] 72))
        have hBo := hB.kept (gb_alloc wr (.cells #[.int .i64 f.week, .int .i64 f.moment, .string f.home, .string f.away] 72) none) (by simp)
        have hco := below_cell (below_alloc wr (.cells #[.int .i64 f.week, .int .i64 f.moment, .string f.home, .string f.away] 72)) hcw
        clear hf q0 q1 q2 q3 hB
        cases he : f.week == week
        · have Hs' := Lib.hid (show bgL week (fs.take (k + 1)) = bgL week (fs.take k) by rw [Hs.out, he]; simp)
          go_wp2_with fail
          go_roundw
          case rel => exact ⟨k + 1, n, by omega, by go_num, by omega, by rw [Hs'.out]; exact hBo, hco, hbo⟩
          case measure => simp [intOf]; omega
        · have Hs' := Lib.hid (show bgL week (fs.take (k + 1)) = bgL week (fs.take k) ++ [(f.home, f.moment)] ++ [(f.away, f.moment)] by rw [Hs.out, he]; simp)
          go_wp2_with fail
          refine (begin1_calls (w.heap.size + 1) w.heap.size n (bgL week (fs.take k)) f.home f.moment _ hco hBo (by omega) (Nat.le_trans hokf.1 (by omega)) (wf_of hokf.2.2.2.2.1 hokf.2.2.2.2.2)).mono ?_
          rintro e w1 ⟨rfl, hB1, hg1⟩
          have d1 := gb_cell hg1 (show (wr.alloc (.cells #[.int .i64 f.week, .int .i64 f.moment, .string f.home, .string f.away] 72)).cell? ⟨wr.heap.size, 1, none⟩ = some (.int .i64 f.moment) by rw [World.cell?_alloc_at _ _ _ _ rfl]; rfl) (by omega)
          have d3 := gb_cell hg1 (show (wr.alloc (.cells #[.int .i64 f.week, .int .i64 f.moment, .string f.home, .string f.away] 72)).cell? ⟨wr.heap.size, 3, none⟩ = some (.string f.away) by rw [World.cell?_alloc_at _ _ _ _ rfl]; rfl) (by omega)
          have hc1 := gb_cell hg1 hco (by omega)
          have hb1 := hbo.grown hg1 hbo.size (fun r hr => by cases hr; exact Nat.le_refl _)
          clear hBo hco hbo hg1 g0 g1 g2 g3
          go_wp2_with fail
          refine (begin1_calls (w.heap.size + 1) w.heap.size (n + 1) _ f.away f.moment _ hc1 hB1 (by omega) (Nat.le_trans hokf.2.1 (by omega)) (wf_of hokf.2.2.2.2.1 hokf.2.2.2.2.2)).mono ?_
          rintro e w2 ⟨rfl, hB2, hg2⟩
          have hc2 := gb_cell hg2 hc1 (by omega)
          have hb2 := hb1.grown hg2 hb1.size (fun r hr => by cases hr; exact Nat.le_refl _)
          clear hB1 hc1 hb1 hg2 d1 d3
          go_wp2_with fail
          go_roundw
          case rel => exact ⟨k + 1, n + 1 + 1, by omega, by go_num, by omega, by rw [Hs'.out]; exact hB2, hc2, hb2⟩
          case measure => simp [intOf]; omega
      · obtain rfl : k = fs.length := by omega
        have hT := Lib.hid (List.take_length (l := fs))
        go_wp2_with fail
        go_ret
        exact ⟨_, n, rfl, by rw [hT.out] at hB; exact hB, Nat.le_refl _, hb⟩
end Go.Proofs.YtmjkbmkjnbpgeaaGreatDoor
namespace Go.Proofs.YtmjkbmkjnbpgeaaGreatDoor
open Go.RowKit

/-- Does a club play in a week? -/
def meets (week : Int) (club : ByteArray) (f : FD) : Bool := f.week == week && (beqS f.home club || beqS f.away club)
theorem filter_snoc {α : Type} (p : α → Bool) {l : List α} {k : Nat} {x : α} (hk : l[k]? = some x) : (l.take (k + 1)).filter p = (l.take k).filter p ++ (if p x then [x] else []) := by
  have hlt : k < l.length := (List.getElem?_eq_some_iff.1 hk).1
  have e : l.take (k + 1) = l.take k ++ [x] := by
    rw [List.take_succ_eq_append_getElem hlt, (List.getElem?_eq_some_iff.1 hk).2]
  rw [e, List.filter_append]
  cases hp : p x <;> simp [hp]
def gamesE (fs : List FD) (club : ByteArray) (week : Int) : Int := firstE [chkFx fs, unlessE (keyB club) 5, unlessE (betwB week 1 60) 1]
def gamesR (fs : List FD) (club : ByteArray) (week : Int) : List FD := if gamesE fs club week = 0 then fs.filter (meets week club) else []
def MadeFE (fs : List FD) (x : Int) (w : World) (e : Ending) (w' : World) : Prop := ∃ v, OwnFx w' w.heap.size v fs ∧ e = .returned (.tuple #[v, .int .i64 x]) ∧ Below w.heap.size w w'
set_option maxRecDepth 100000 in
set_option maxHeartbeats 4000000 in
theorem games_calls (lo : Nat) (v : Value) (fs : List FD) (club : ByteArray) (week : Int) (w : World) (hF : Fxs w lo v fs) (hok : ∀ f ∈ fs, OkF f) (hn : fs.length ≤ 10000) (hcl : club.size ≤ 1000000) :
    Calls Tryz.prog 39 #[v, .string club, .int .i64 week] w (MadeFE (gamesR fs club week) (gamesE fs club week) w) := by
  obtain ⟨i0, hi, hz0, hz1, hz2⟩ := info_parts info_fx
  have HE := Lib.hid (show gamesE fs club week = firstE [chkFx fs, unlessE (keyB club) 5, unlessE (betwB week 1 60) 1] from rfl)
  have HR := Lib.hid (show gamesR fs club week = if gamesE fs club week = 0 then fs.filter (meets week club) else [] from rfl)
  generalize gamesE fs club week = E at HE HR ⊢
  generalize gamesR fs club week = R at HR ⊢
  have hF' := hF
  obtain ⟨fa, fc, rfl⟩ := fxs_shape hF
  have C := Lib.hid (checkFixtures_calls lo _ fs w hF hok (by omega))
  clear hF
  go_enter Tryz.func39, Tryz.ntmps39
  go_wp2_with fail
  refine C.out.mono ?_
  rintro e w1 ⟨rfl, hb1⟩
  have hF1 := hF'.below hb1
  clear C hF'
  go_wp2_with fail
  refine (key_calls _ _ hcl).mono ?_
  rintro e w' ⟨rfl, rfl⟩
  go_wp2_with fail
  refine (unless_calls _ _ _).mono ?_
  rintro e w' ⟨rfl, rfl⟩
  go_wp2_with fail
  refine (week_calls _ _).mono ?_
  rintro e w' ⟨rfl, rfl⟩
  go_wp2_with fail
  refine (unless_calls _ _ _).mono ?_
  rintro e w' ⟨rfl, rfl⟩
  go_wp2_with fail
  refine (orE_calls _ 0 3 [chkFx fs, unlessE (keyB club) 5, unlessE (betwB week 1 60) 1] _ (by simp) (by exact nums3 _ _ _ _ _)).mono ?_
  rintro e w2 ⟨rfl, hw2⟩
  rw [← HE.out]
  have hF2 := hF1.below (below_alloc w1 (.cells #[.int .i64 (chkFx fs), .int .i64 (unlessE (keyB club) 5), .int .i64 (unlessE (betwB week 1 60) 1)] 32))
  have hb2 := below_step hb1 (below_alloc w1 (.cells #[.int .i64 (chkFx fs), .int .i64 (unlessE (keyB club) 5), .int .i64 (unlessE (betwB week 1 60) 1)] 32))
  rw [hw2] at hF2 hb2
  clear hw2 hF1 hb1
  by_cases hz : E = 0
  · have e1 : (E != 0) = false := by simp [hz]
    have Hz := Lib.hid hz
    have HR' := Lib.hid (show R = fs.filter (meets week club) by rw [HR.out, if_pos hz])
    clear hz
    rcases fxs_at hF2 with ⟨h1, rfl⟩ | ⟨g, off, cap, h1, hlo, hg, hn1, hcell⟩
    · obtain ⟨rfl, rfl⟩ : fa = none ∧ fc = 0 := by simpa using h1
      clear hF2
      go_wp2_with fail
      refine wp_loop_rounds 1 ?_
      rw [rounds_succ]
      go_wp2_with fail
      go_ret2
      refine ⟨_, ?_, by rw [Hz.out]; rfl, hb2⟩
      rw [HR'.out]
      exact World.ownsRow_nil _ _ _ _
    · simp only [Value.slice.injEq, true_and] at h1
      obtain ⟨rfl, rfl⟩ := h1
      have Hc := Lib.hid hcell
      clear hF2 hcell
      go_wp2_with fail
      go_loopw [9, 27] (fun out i wr => ∃ k : Nat, k ≤ fs.length ∧ i = .int .i64 k ∧ OwnFx wr w2.heap.size out ((fs.take k).filter (meets week club)) ∧ Below w2.heap.size w2 wr) (fun _ i _ => fs.length - (intOf i).toNat)
      case atStart => exact ⟨0, Nat.zero_le _, rfl, World.ownsRow_nil _ _ _ _, Below.refl _ _⟩
      case round =>
        obtain ⟨k, hk, rfl, hown, hbb⟩ := hrel
        by_cases hlt : k < fs.length
        · obtain ⟨f, hf⟩ : ∃ f, fs[k]? = some f := ⟨fs[k], List.getElem?_eq_getElem hlt⟩
          have Hs := Lib.hid (filter_snoc (meets week club) hf)
          obtain ⟨q0, q1, q2, q3⟩ := Hc.out k f hf
          have g0 := below_cell hbb q0
          have g1 := below_cell hbb q1
          have g2 := below_cell hbb q2
          have g3 := below_cell hbb q3
          have hle : ((fs.take k).filter (meets week club)).length ≤ 1000000 := by
            have h1 := List.length_filter_le (meets week club) (fs.take k)
            have h2 := List.length_take_le k fs
            omega
          generalize (fs.take k).filter (meets week club) = L at Hs hown hle
          clear hf q0 q1 q2 q3
          cases hw : f.week == week
          · have Hs' := Lib.hid (show (fs.take (k + 1)).filter (meets week club) = L by rw [Hs.out]; simp [meets, hw])
            have hbb' := below_step hbb (below_alloc wr (.cells #[.int .i64 f.week, .int .i64 f.moment, .string f.home, .string f.away] 72))
            have hown' : OwnFx _ w2.heap.size _ L := World.ownsRow.alloc hown (.cells #[.int .i64 f.week, .int .i64 f.moment, .string f.home, .string f.away] 72)
            clear hbb hown
            go_wp2_with fail
            go_roundw
            case rel => exact ⟨k + 1, by omega, by go_num, by rw [Hs'.out]; exact hown', hbb'⟩
            case measure => simp [intOf]; omega
          · cases hh : beqS f.home club
            · have e2 : (f.home.toList == club.toList) = false := hh
              cases ha : beqS f.away club
              · have e3 : (f.away.toList == club.toList) = false := ha
                have Hs' := Lib.hid (show (fs.take (k + 1)).filter (meets week club) = L by rw [Hs.out]; simp [meets, hw, hh, ha])
                have hbb' := below_step hbb (below_alloc wr (.cells #[.int .i64 f.week, .int .i64 f.moment, .string f.home, .string f.away] 72))
                have hown' : OwnFx _ w2.heap.size _ L := World.ownsRow.alloc hown (.cells #[.int .i64 f.week, .int .i64 f.moment, .string f.home, .string f.away] 72)
                clear hbb hown
                go_wp2_with fail
                go_roundw
                case rel => exact ⟨k + 1, by omega, by go_num, by rw [Hs'.out]; exact hown', hbb'⟩
                case measure => simp [intOf]; omega
              · have e3 : (f.away.toList == club.toList) = true := ha
                have Hs' := Lib.hid (show (fs.take (k + 1)).filter (meets week club) = L ++ [f] by rw [Hs.out]; simp [meets, hw, hh, ha])
                have hbb' := below_step hbb (below_alloc wr (.cells #[.int .i64 f.week, .int .i64 f.moment, .string f.home, .string f.away] 72))
                have hown' : OwnFx _ w2.heap.size _ L := World.ownsRow.alloc hown (.cells #[.int .i64 f.week, .int .i64 f.moment, .string f.home, .string f.away] 72)
                have hwr := hbb.size
                clear hbb hown
                go_wp2_with (at_builtin; refine wpList_append_own _ rfl _ _ 51 rfl w2.heap.size 72 i0 (.agg #[.int .i64 0, .int .i64 0, .string ⟨#[]⟩, .string ⟨#[]⟩]) 4 48 Tryz.underlying51 hi hz0 hz1 hz2 rfl (by decide) _ _ _ rfl (World.ownsRow.alloc hown' _) ⟨wr.heap.size + 1, 0, none⟩ 1 1 [.int .i64 f.week, .int .i64 f.moment, .string f.home, .string f.away] rfl rfl ?c1 ?c2 ?c3 ?c4 ?c5 ?_)
                case c1 =>
                  have := cell_four_new (wr.alloc (.cells #[.int .i64 f.week, .int .i64 f.moment, .string f.home, .string f.away] 72)) (.int .i64 f.week) (.int .i64 f.moment) (.string f.home) (.string f.away) 72
                  simpa using this
                case c2 => simp [Value.oneCell']
                case c3 => unfold maxLen; omega
                case c4 => omega
                case c5 => simp; omega
                intro v' w6 hown6 hgrow _
                have hown6' : OwnFx w6 w2.heap.size v' (L ++ [f]) := by unfold OwnFx; simpa [fxRow] using hown6
                have hbb6 : Below w2.heap.size w2 w6 := (below_step hbb' (below_alloc _ _)).grown hgrow (by simp; omega) fun r hr => (own_block hown' r hr).1
                clear hown6 hgrow hbb' hown'
                go_wp2_with fail
                go_roundw
                case rel => exact ⟨k + 1, by omega, by go_num, by rw [Hs'.out]; exact hown6', hbb6⟩
                case measure => simp [intOf]; omega
            · have e2 : (f.home.toList == club.toList) = true := hh
              have Hs' := Lib.hid (show (fs.take (k + 1)).filter (meets week club) = L ++ [f] by rw [Hs.out]; simp [meets, hw, hh])
              have hbb' := below_step hbb (below_alloc wr (.cells #[.int .i64 f.week, .int .i64 f.moment, .string f.home, .string f.away] 72))
              have hown' : OwnFx _ w2.heap.size _ L := World.ownsRow.alloc hown (.cells #[.int .i64 f.week, .int .i64 f.moment, .string f.home, .string f.away] 72)
              have hwr := hbb.size
              clear hbb hown
              go_wp2_with (at_builtin; refine wpList_append_own _ rfl _ _ 51 rfl w2.heap.size 72 i0 (.agg #[.int .i64 0, .int .i64 0, .string ⟨#[]⟩, .string ⟨#[]⟩]) 4 48 Tryz.underlying51 hi hz0 hz1 hz2 rfl (by decide) _ _ _ rfl (World.ownsRow.alloc hown' _) ⟨wr.heap.size + 1, 0, none⟩ 1 1 [.int .i64 f.week, .int .i64 f.moment, .string f.home, .string f.away] rfl rfl ?c1 ?c2 ?c3 ?c4 ?c5 ?_)
              case c1 =>
                have := cell_four_new (wr.alloc (.cells #[.int .i64 f.week, .int .i64 f.moment, .string f.home, .string f.away] 72)) (.int .i64 f.week) (.int .i64 f.moment) (.string f.home) (.string f.away) 72
                simpa using this
              case c2 => simp [Value.oneCell']
              case c3 => unfold maxLen; omega
              case c4 => omega
              case c5 => simp; omega
              intro v' w6 hown6 hgrow _
              have hown6' : OwnFx w6 w2.heap.size v' (L ++ [f]) := by unfold OwnFx; simpa [fxRow] using hown6
              have hbb6 : Below w2.heap.size w2 w6 := (below_step hbb' (below_alloc _ _)).grown hgrow (by simp; omega) fun r hr => (own_block hown' r hr).1
              clear hown6 hgrow hbb' hown'
              go_wp2_with fail
              go_roundw
              case rel => exact ⟨k + 1, by omega, by go_num, by rw [Hs'.out]; exact hown6', hbb6⟩
              case measure => simp [intOf]; omega
        · obtain rfl : k = fs.length := by omega
          have hT := Lib.hid (List.take_length (l := fs))
          go_wp2_with fail
          go_ret2
          refine ⟨_, ?_, by rw [Hz.out]; rfl, below_step hb2 hbb⟩
          rw [HR'.out]
          rw [hT.out] at hown
          exact owns_mono hown hb2.size
  · have e1 : (E != 0) = true := by simp [hz]
    have HR' := Lib.hid (show R = [] by rw [HR.out, if_neg hz])
    clear hz
    go_wp2_with fail
    go_ret2
    refine ⟨_, ?_, rfl, hb2⟩
    rw [HR'.out]
    exact World.ownsRow_nil _ _ _ _
end Go.Proofs.YtmjkbmkjnbpgeaaGreatDoor
