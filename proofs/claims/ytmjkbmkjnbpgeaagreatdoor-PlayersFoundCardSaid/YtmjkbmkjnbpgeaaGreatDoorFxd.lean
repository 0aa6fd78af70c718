/- Fixtures: rows of four cells; how they are compared and put in order. Fixtures: the comparisons that put them in order; insertion. Fixtures: insertion, and the stable sort of few. Fixtures: slices.CompactFunc. -/
import Derived.Test.YtmjkbmkjnbpgeaaGreatDoorBc
import Derived.Test.YtmjkbmkjnbpgeaaGreatDoorBd
import Derived.BigQuiet
import Derived.Deep.QuietTactic
import Derived.RegionTactic
import Derived.Test.YtmjkbmkjnbpgeaaGreatDoorBo
namespace Go.Proofs.YtmjkbmkjnbpgeaaGreatDoor
open Go.RowKit

/-- A fixture. -/
structure FD where
  week : Int
  moment : Int
  home : ByteArray
  away : ByteArray
def fxRow (f : FD) : List Value := [.int .i64 f.week, .int .i64 f.moment, .string f.home, .string f.away]
/-- A slice of fixtures. -/
def Fxs (w : World) (lo : Nat) (v : Value) (fs : List FD) : Prop := Rows w 72 lo 4 v (fs.map fxRow)
theorem fxs_at {w : World} {lo : Nat} {v : Value} {fs : List FD} (h : Fxs w lo v fs) :
    (v = .slice none 0 0 ∧ fs = []) ∨ ∃ g off cap, v = .slice (some ⟨g, off, none⟩) fs.length cap ∧ lo ≤ g ∧ g < w.heap.size ∧ fs.length ≤ 1000000 ∧
      ∀ (i : Nat) (f : FD), fs[i]? = some f → w.cell? ⟨g, off + i * 4, none⟩ = some (.int .i64 f.week) ∧ w.cell? ⟨g, off + i * 4 + 1, none⟩ = some (.int .i64 f.moment) ∧ w.cell? ⟨g, off + i * 4 + 2, none⟩ = some (.string f.home) ∧ w.cell? ⟨g, off + i * 4 + 3, none⟩ = some (.string f.away) := by
  rcases rows_at h with ⟨e1, e2⟩ | ⟨g, off, cap, e1, e2, e3, hc⟩
  · exact .inl ⟨e1, by simpa using e2⟩
  · refine .inr ⟨g, off, cap, by simpa using e1, e2, e3, by simpa using h.small, fun i f hf => ?_⟩
    have hr : (fs.map fxRow)[i]?.getD [] = fxRow f := by simp [hf]
    exact ⟨hc i 0 _ (by rw [hr]; rfl), hc i 1 _ (by rw [hr]; rfl), hc i 2 _ (by rw [hr]; rfl), hc i 3 _ (by rw [hr]; rfl)⟩
theorem fxs_shape {w : World} {lo : Nat} {v : Value} {fs : List FD} (h : Fxs w lo v fs) : ∃ a c, v = .slice a fs.length c := by
  rcases fxs_at h with ⟨rfl, rfl⟩ | ⟨g, off, cap, rfl, _⟩
  · exact ⟨none, 0, rfl⟩
  · exact ⟨_, _, rfl⟩
theorem Fxs.below {w w' : World} {lo : Nat} {v : Value} {fs : List FD} (h : Fxs w lo v fs) (hb : Below w.heap.size w w') : Fxs w' lo v fs := Rows.below h hb
theorem info_fx : (Tryz.prog.info? 72).map (fun i => (i.zero, i.size, i.bytes)) = some (some (.agg #[.int .i64 0, .int .i64 0, .string ⟨#[]⟩, .string ⟨#[]⟩]), 4, 48) := by kernel_rfl
theorem zero_fx (w : World) : (zeroValue 72).run Tryz.prog w = .ok (.agg #[.int .i64 0, .int .i64 0, .string ⟨#[]⟩, .string ⟨#[]⟩]) w := by kernel_rfl
/-- Fixtures that the call made itself. -/
def OwnFx (w : World) (base : Nat) (v : Value) (fs : List FD) : Prop := w.ownsRow base 72 4 v fs.length (fs.map fxRow).flatten
theorem own_fx_row {w w' : World} {base B : Nat} {v : Value} {fs : List FD} {cur : Array Value} {T : Nat} {fr : Nat × Nat} (h : OwnFx w base v fs) (hg : w.grownBy w' (some B)) (hB : w.heap[B]? = some (.cells cur T fr)) (h1 : T ≠ 72) : OwnFx w' base v fs :=
  World.ownsRow.kept h hg (by right; intro e; obtain ⟨_, cur', h⟩ := own_block h B e; rw [hB] at h; cases h; exact h1 rfl)
/-- A whole row of four is written. -/
theorem rows_set4 {w : World} {T g off i : Nat} {rows : List (List Value)} {row : List Value} (h : RowsAt w T g off 4 rows) (hi : rows[i]? = some row) (a b c d : Value) :
    RowsAt ((((w.setCell ⟨g, off + i * 4, none⟩ a).setCell ⟨g, off + i * 4 + 1, none⟩ b).setCell ⟨g, off + i * 4 + 2, none⟩ c).setCell ⟨g, off + i * 4 + 3, none⟩ d) T g off 4 (rows.set i [a, b, c, d]) := by
  have hlt : i < rows.length := (List.getElem?_eq_some_iff.1 hi).1
  have hl : row.length = 4 := h.1 row (List.mem_of_getElem? hi)
  match row, hl with
  | [x, y, z, u], _ =>
    have r0 := h.set hi (show 0 < 4 by omega) a
    have r1 := r0.set (List.getElem?_set_self hlt) (show 1 < 4 by omega) b
    rw [List.set_set] at r1
    have r2 := r1.set (List.getElem?_set_self hlt) (show 2 < 4 by omega) c
    rw [List.set_set] at r2
    have r3 := r2.set (List.getElem?_set_self hlt) (show 3 < 4 by omega) d
    rw [List.set_set] at r3
    exact r3

/-- Some number, and new memory alone. -/
def SomeInt (w : World) (e : Ending) (w' : World) : Prop := ∃ x : Int, e = .returned (.int .i64 x) ∧ Below w.heap.size w w'
set_option maxRecDepth 100000 in
set_option maxHeartbeats 1000000 in
/-- slices.Compare on two rows of two ints. -/
theorem cmpInts_calls (g g' cap cap' : Nat) (a b c d : Int) (w : World) (h1 : w.cell? ⟨g, 0, none⟩ = some (.int .i64 a)) (h2 : w.cell? ⟨g, 1, none⟩ = some (.int .i64 b)) (h3 : w.cell? ⟨g', 0, none⟩ = some (.int .i64 c)) (h4 : w.cell? ⟨g', 1, none⟩ = some (.int .i64 d)) :
    Calls Tryz.prog 97 #[.slice (some ⟨g, 0, none⟩) 2 cap, .slice (some ⟨g', 0, none⟩) 2 cap'] w fun e w' => e = .returned (.int .i64 (firstE [Lib.compareInt a c, Lib.compareInt b d])) ∧ w = w' := by
  have HR := Lib.hid (show firstE [Lib.compareInt a c, Lib.compareInt b d] = if Lib.compareInt a c = 0 then (if Lib.compareInt b d = 0 then 0 else Lib.compareInt b d) else Lib.compareInt a c from rfl)
  generalize firstE [Lib.compareInt a c, Lib.compareInt b d] = R at HR ⊢
  have C1 := Lib.hid (Tryz.cmp_Compare_int a c)
  have C2 := Lib.hid (Tryz.cmp_Compare_int b d)
  generalize Lib.compareInt a c = x at HR C1
  generalize Lib.compareInt b d = y at HR C2
  go_enter Tryz.func97, Tryz.ntmps97
  go_wp2_with fail
  go_loop [11] (fun i => i = .int .i64 0 ∨ (i = .int .i64 1 ∧ x = 0) ∨ (i = .int .i64 2 ∧ x = 0 ∧ y = 0)) (fun i => 2 - (intOf i).toNat)
  case atStart => exact .inl rfl
  case round =>
    rcases hrel with rfl | ⟨rfl, hx⟩ | ⟨rfl, hx, hy⟩
    · go_wp2_with fail
      refine (C1.out _).mono ?_
      rintro e w' ⟨rfl, h⟩
      subst h
      by_cases hx : x = 0
      · subst hx
        go_wp2_with fail
        go_round
        case rel => exact .inr (.inl ⟨rfl, trivial⟩)
        case measure => simp [intOf]
      · have e1 : (x != 0) = true := by simp [hx]
        have Hx := Lib.hid hx
        clear hx
        go_wp2_with fail
        go_ret
        exact ⟨ret_int (by rw [HR.out, if_neg Hx.out]), rfl⟩
    · have Hx := Lib.hid hx
      clear hx
      go_wp2_with fail
      refine (C2.out _).mono ?_
      rintro e w' ⟨rfl, h⟩
      subst h
      by_cases hy : y = 0
      · subst hy
        go_wp2_with fail
        go_round
        case rel => exact .inr (.inr ⟨rfl, Hx.out, trivial⟩)
        case measure => simp [intOf]
      · have e1 : (y != 0) = true := by simp [hy]
        have Hy := Lib.hid hy
        clear hy
        go_wp2_with fail
        go_ret
        exact ⟨ret_int (by rw [HR.out, if_pos Hx.out, if_neg Hy.out]), rfl⟩
    · have Hx := Lib.hid hx
      have Hy := Lib.hid hy
      clear hx hy
      go_wp2_with fail
      go_ret
      exact ⟨ret_int (by rw [HR.out, if_pos Hx.out, if_pos Hy.out]), rfl⟩
end Go.Proofs.YtmjkbmkjnbpgeaaGreatDoor
namespace Go.Proofs.YtmjkbmkjnbpgeaaGreatDoor
open Go.RowKit

set_option maxHeartbeats 400000 in
theorem isNaNs_calls (a : ByteArray) (w : World) : Calls Tryz.prog 207 #[.string a] w fun e w' => e = .returned (.bool false) ∧ w = w' := by
  have e1 : (a.toList != a.toList) = false := by simp
  go_enter Tryz.func207, Tryz.ntmps207
  go_wp2_with fail
  go_ret
  exact ⟨rfl, rfl⟩
set_option maxRecDepth 100000 in
set_option maxHeartbeats 400000 in
/-- cmp.Compare at strings. -/
theorem cmpStr_calls (a b : ByteArray) (w : World) : Calls Tryz.prog 167 #[.string a, .string b] w fun e w' => e = .returned (.int .i64 (cmpS a b)) ∧ w = w' := by
  have HR := Lib.hid (show cmpS a b = if ltS a b then -1 else if beqS a b then 0 else 1 from rfl)
  generalize cmpS a b = R at HR ⊢
  cases h1 : ltS a b
  · cases h2 : ltS b a
    · have e1 : Op.bytesLess a.toList b.toList = false := h1
      have hb : beqS a b = true := by
        cases hh : beqS a b
        · have := ltS_or h1 hh; rw [h2] at this; cases this
        · rfl
      have Hb := Lib.hid hb
      have H1 := Lib.hid h1
      have e2 : (a.toList == b.toList) = beqS a b := rfl
      rw [hb] at e2
      clear hb h1 h2
      go_enter Tryz.func167, Tryz.ntmps167
      go_wp2_with fail
      refine (isNaNs_calls a w).mono ?_
      rintro e w' ⟨rfl, rfl⟩
      go_wp2_with fail
      refine (isNaNs_calls b w).mono ?_
      rintro e w' ⟨rfl, rfl⟩
      go_wp2_with fail
      go_ret
      exact ⟨ret_int (by rw [HR.out, H1.out, Hb.out]; rfl), rfl⟩
    · have e1 : Op.bytesLess a.toList b.toList = false := h1
      have hb : beqS a b = false := by
        cases hh : beqS a b
        · rfl
        · have := beqS_iff.1 hh; subst this; rw [h1] at h2; cases h2
      have Hb := Lib.hid hb
      have H1 := Lib.hid h1
      have e2 : (a.toList == b.toList) = beqS a b := rfl
      rw [hb] at e2
      clear hb h1 h2
      go_enter Tryz.func167, Tryz.ntmps167
      go_wp2_with fail
      refine (isNaNs_calls a w).mono ?_
      rintro e w' ⟨rfl, rfl⟩
      go_wp2_with fail
      refine (isNaNs_calls b w).mono ?_
      rintro e w' ⟨rfl, rfl⟩
      go_wp2_with fail
      go_ret
      exact ⟨ret_int (by rw [HR.out, H1.out, Hb.out]; rfl), rfl⟩
  · have e1 : Op.bytesLess a.toList b.toList = true := h1
    have H1 := Lib.hid h1
    clear h1
    go_enter Tryz.func167, Tryz.ntmps167
    go_wp2_with fail
    refine (isNaNs_calls a w).mono ?_
    rintro e w' ⟨rfl, rfl⟩
    go_wp2_with fail
    refine (isNaNs_calls b w).mono ?_
    rintro e w' ⟨rfl, rfl⟩
    go_wp2_with fail
    go_ret
    exact ⟨ret_int (by rw [HR.out, H1.out]; rfl), rfl⟩
set_option maxRecDepth 100000 in
set_option maxHeartbeats 1000000 in
/-- slices.Compare on two rows of one string. -/
theorem cmpStrs1_calls (g g' cap cap' : Nat) (a c : ByteArray) (w : World) (h1 : w.cell? ⟨g, 0, none⟩ = some (.string a)) (h3 : w.cell? ⟨g', 0, none⟩ = some (.string c)) :
    Calls Tryz.prog 98 #[.slice (some ⟨g, 0, none⟩) 1 cap, .slice (some ⟨g', 0, none⟩) 1 cap'] w fun e w' => e = .returned (.int .i64 (cmpS a c)) ∧ w = w' := by
  have C1 := Lib.hid (cmpStr_calls a c)
  generalize cmpS a c = x at C1 ⊢
  go_enter Tryz.func98, Tryz.ntmps98
  go_wp2_with fail
  go_loop [11] (fun i => i = .int .i64 0 ∨ (i = .int .i64 1 ∧ x = 0)) (fun i => 2 - (intOf i).toNat)
  case atStart => exact .inl rfl
  case round =>
    rcases hrel with rfl | ⟨rfl, hx⟩
    · go_wp2_with fail
      refine (C1.out _).mono ?_
      rintro e w' ⟨rfl, h⟩
      subst h
      by_cases hx : x = 0
      · subst hx
        go_wp2_with fail
        go_round
        case rel => exact .inr ⟨rfl, trivial⟩
        case measure => simp [intOf]
      · have e1 : (x != 0) = true := by simp [hx]
        go_wp2_with fail
        go_ret
        exact ⟨rfl, rfl⟩
    · subst hx
      go_wp2_with fail
      go_ret
      exact ⟨rfl, rfl⟩

theorem two_fx (w : World) (a b : FD) : ∃ W, W = (w.alloc (.cells (fxRow a).toArray 72)).alloc (.cells (fxRow b).toArray 72) ∧ Below w.heap.size w W ∧ W.heap.size = w.heap.size + 2 ∧
    (W.cell? ⟨w.heap.size, 0, none⟩ = some (.int .i64 a.week) ∧ W.cell? ⟨w.heap.size, 1, none⟩ = some (.int .i64 a.moment) ∧ W.cell? ⟨w.heap.size, 2, none⟩ = some (.string a.home) ∧ W.cell? ⟨w.heap.size, 3, none⟩ = some (.string a.away)) ∧
    (W.cell? ⟨w.heap.size + 1, 0, none⟩ = some (.int .i64 b.week) ∧ W.cell? ⟨w.heap.size + 1, 1, none⟩ = some (.int .i64 b.moment) ∧ W.cell? ⟨w.heap.size + 1, 2, none⟩ = some (.string b.home) ∧ W.cell? ⟨w.heap.size + 1, 3, none⟩ = some (.string b.away)) := by
  refine ⟨_, rfl, below2 w _ _, by simp, ⟨?_, ?_, ?_, ?_⟩, ?_, ?_, ?_, ?_⟩
  all_goals first
    | (rw [World.cell?_alloc_past _ _ _ (by simp), World.cell?_alloc_at _ _ _ _ rfl]; rfl)
    | (rw [World.cell?_alloc_at _ _ _ _ (by simp)]; rfl)

set_option maxRecDepth 100000 in
set_option maxHeartbeats 1000000 in
theorem fxCmp_calls (a b : FD) (w : World) :
    Calls Tryz.prog 96 #[.agg #[.int .i64 a.week, .int .i64 a.moment, .string a.home, .string a.away], .agg #[.int .i64 b.week, .int .i64 b.moment, .string b.home, .string b.away]] w (SomeInt w) := by
  obtain ⟨W, hW, hwW, hsz, ⟨x0, x1, x2, x3⟩, y0, y1, y2, y3⟩ := two_fx w a b
  have q0 := fun o => below_cell (below_alloc W o) y0
  have q1 := fun o => below_cell (below_alloc W o) y1
  clear hsz
  simp only [fxRow] at hW
  go_enter Tryz.func96, Tryz.ntmps96
  go_upto_region 1 with fail
  rw [← hW]
  clear hW
  go_wp2_with fail
  have c1 : ∀ (o o' : Obj), ((W.alloc o).alloc o').heap.size = W.heap.size + 2 := fun o o' => by simp
  have k1 : ((W.alloc (.cells #[.int .i64 a.week, .int .i64 a.moment] 3)).alloc (.cells #[.int .i64 b.week, .int .i64 b.moment] 3)).cell? ⟨W.heap.size, 0, none⟩ = some (.int .i64 a.week) := by rw [World.cell?_alloc_past _ _ _ (by simp), World.cell?_alloc_at _ _ _ _ rfl]; rfl
  have k2 : ((W.alloc (.cells #[.int .i64 a.week, .int .i64 a.moment] 3)).alloc (.cells #[.int .i64 b.week, .int .i64 b.moment] 3)).cell? ⟨W.heap.size, 1, none⟩ = some (.int .i64 a.moment) := by rw [World.cell?_alloc_past _ _ _ (by simp), World.cell?_alloc_at _ _ _ _ rfl]; rfl
  have k3 : ((W.alloc (.cells #[.int .i64 a.week, .int .i64 a.moment] 3)).alloc (.cells #[.int .i64 b.week, .int .i64 b.moment] 3)).cell? ⟨W.heap.size + 1, 0, none⟩ = some (.int .i64 b.week) := by rw [World.cell?_alloc_at _ _ _ _ (by simp)]; rfl
  have k4 : ((W.alloc (.cells #[.int .i64 a.week, .int .i64 a.moment] 3)).alloc (.cells #[.int .i64 b.week, .int .i64 b.moment] 3)).cell? ⟨W.heap.size + 1, 1, none⟩ = some (.int .i64 b.moment) := by rw [World.cell?_alloc_at _ _ _ _ (by simp)]; rfl
  refine (cmpInts_calls _ _ _ _ _ _ _ _ _ k1 k2 k3 k4).mono ?_
  rintro e w' ⟨rfl, hw'⟩
  have hb2 : Below W.heap.size W w' := by rw [← hw']; exact below2 W _ _
  clear hw' k1 k2 k3 k4 c1
  have z2 := below_cell hb2 x2
  have z2' := below_cell hb2 y2
  have hbw := below_step hwW hb2
  have q2 := fun o => below_cell (below_alloc _ o) z2'
  clear x0 x1 x2 x3 y0 y1 y2 y3 q0 q1
  generalize firstE [Lib.compareInt a.week b.week, Lib.compareInt a.moment b.moment] = x
  by_cases hx : x = 0
  · subst hx
    go_wp2_with fail
    refine (cmpStrs1_calls w'.heap.size (w'.heap.size + 1) _ _ a.home b.home _ (by rw [World.cell?_alloc_past _ _ _ (by simp), World.cell?_alloc_at _ _ _ _ rfl]; rfl) (by rw [World.cell?_alloc_at _ _ _ _ (by simp)]; rfl)).mono ?_
    rintro e w2 ⟨rfl, hw2⟩
    have hb3 := below_step hbw (show Below w'.heap.size w' w2 by rw [← hw2]; exact below2 w' _ _)
    clear hw2
    go_wp2_with fail
    go_ret
    exact ⟨_, rfl, hb3⟩
  · have e1 : (x != 0) = true := by simp [hx]
    clear hx
    go_wp2_with fail
    go_ret
    exact ⟨_, rfl, hbw⟩
set_option maxRecDepth 100000 in
set_option maxHeartbeats 1000000 in
theorem fxEq_calls (a b : FD) (w : World) :
    Calls Tryz.prog 100 #[.agg #[.int .i64 a.week, .int .i64 a.moment, .string a.home, .string a.away], .agg #[.int .i64 b.week, .int .i64 b.moment, .string b.home, .string b.away]] w (BoolBelow w) := by
  obtain ⟨W, hW, hwW, hsz, ⟨x0, x1, x2, x3⟩, y0, y1, y2, y3⟩ := two_fx w a b
  have q0 := fun o => below_cell (below_alloc W o) y0
  have q1 := fun o => below_cell (below_alloc W o) y1
  clear hsz
  simp only [fxRow] at hW
  obtain ⟨p, hp⟩ : ∃ p, (a.week == b.week) = p := ⟨_, rfl⟩
  obtain ⟨q, hq⟩ : ∃ q, (a.moment == b.moment) = q := ⟨_, rfl⟩
  obtain ⟨r, hr⟩ : ∃ r, (a.home.toList == b.home.toList) = r := ⟨_, rfl⟩
  go_enter Tryz.func100, Tryz.ntmps100
  go_upto_region 1 with fail
  rw [← hW]
  clear hW
  cases p
  · go_wp2_with fail
    go_ret
    exact ⟨_, rfl, hwW⟩
  · cases q
    · go_wp2_with fail
      go_ret
      exact ⟨_, rfl, hwW⟩
    · cases r <;> (go_wp2_with fail; go_ret; exact ⟨_, rfl, hwW⟩)
end Go.Proofs.YtmjkbmkjnbpgeaaGreatDoor
namespace Go.Proofs.YtmjkbmkjnbpgeaaGreatDoor
open Go.RowKit

abbrev fxcFn : Value := .func (.func 96) #[] #[]
abbrev fxeFn : Value := .func (.func 100) #[] #[]
/-- Behind a sort: as many, and all still have Q. -/
def SortedFx (Q : FD → Prop) (g off n : Nat) (w : World) (e : Ending) (w' : World) : Prop := e = .returned (.tuple #[]) ∧ ∃ fs' : List FD, fs'.length = n ∧ RowsAt w' 72 g off 4 (fs'.map fxRow) ∧ w.grownBy w' (some g) ∧ ∀ f ∈ fs', Q f
theorem fx_cells {w : World} {g off i : Nat} {fs : List FD} {f : FD} (h : RowsAt w 72 g off 4 (fs.map fxRow)) (hf : fs[i]? = some f) :
    w.cell? ⟨g, off + i * 4, none⟩ = some (.int .i64 f.week) ∧ w.cell? ⟨g, off + i * 4 + 1, none⟩ = some (.int .i64 f.moment) ∧ w.cell? ⟨g, off + i * 4 + 2, none⟩ = some (.string f.home) ∧ w.cell? ⟨g, off + i * 4 + 3, none⟩ = some (.string f.away) := by
  have hr : (fs.map fxRow)[i]? = some (fxRow f) := by simp [hf]
  exact ⟨h.cell hr (j := 0) rfl, h.cell hr (j := 1) rfl, h.cell hr (j := 2) rfl, h.cell hr (j := 3) rfl⟩

theorem fx_set4 {w : World} {g off i : Nat} {fs : List FD} {f0 : FD} (h : RowsAt w 72 g off 4 (fs.map fxRow)) (hi : fs[i]? = some f0) (f : FD) :
    RowsAt ((((w.setCell ⟨g, off + i * 4, none⟩ (.int .i64 f.week)).setCell ⟨g, off + i * 4 + 1, none⟩ (.int .i64 f.moment)).setCell ⟨g, off + i * 4 + 2, none⟩ (.string f.home)).setCell ⟨g, off + i * 4 + 3, none⟩ (.string f.away)) 72 g off 4 ((fs.set i f).map fxRow) := by
  have := rows_set4 h (i := i) (row := fxRow f0) (by simp [hi]) (.int .i64 f.week) (.int .i64 f.moment) (.string f.home) (.string f.away)
  rw [List.map_set]; exact this
theorem RowsAt.drew {w : World} {T g off sz : Nat} {rows : List (List Value)} (h : RowsAt w T g off sz rows) : RowsAt w.drew T g off sz rows := h
theorem gb_drew' {w w' : World} {row : Option Nat} (h : w.grownBy w' row) : w.grownBy w'.drew row := ⟨h.os, h.tape, h.output, h.size, h.block⟩
theorem gb_set4 (w : World) (g off : Nat) (a b c d : Value) : w.grownBy ((((w.setCell ⟨g, off, none⟩ a).setCell ⟨g, off + 1, none⟩ b).setCell ⟨g, off + 2, none⟩ c).setCell ⟨g, off + 3, none⟩ d) (some g) :=
  gb_trans (gb_setCell _ _ _ _) (gb_trans (gb_setCell _ _ _ _) (gb_trans (gb_setCell _ _ _ _) (gb_setCell _ _ _ _)))

set_option maxRecDepth 100000 in
set_option maxHeartbeats 4000000 in
theorem insFx_calls (Q : FD → Prop) (g off cap : Nat) (fs : List FD) (w : World) (hv : RowsAt w 72 g off 4 (fs.map fxRow)) (hn : fs.length ≤ 1000000) (hQ : ∀ f ∈ fs, Q f) :
    Calls Tryz.prog 205 #[.slice (some ⟨g, off, none⟩) fs.length cap, .int .i64 0, .int .i64 (fs.length : Int), fxcFn] w (SortedFx Q g off fs.length w) := by
  have HQ := Lib.hid hQ
  clear hQ
  obtain ⟨n, hnn⟩ : ∃ n, fs.length = n := ⟨_, rfl⟩
  rw [hnn] at hn ⊢
  go_enter Tryz.func205, Tryz.ntmps205
  go_wp2_with fail
  go_loopw [8] (fun i wr => ∃ (k : Nat) (fs' : List FD), i = .int .i64 k ∧ 1 ≤ k ∧ k ≤ 1000001 ∧ fs'.length = n ∧ RowsAt wr 72 g off 4 (fs'.map fxRow) ∧ w.grownBy wr (some g) ∧ Hid (∀ f ∈ fs', Q f)) (fun i _ => n - (intOf i).toNat)
  case atStart => exact ⟨1, fs, rfl, by omega, by omega, hnn, hv, gb_refl _ _, HQ⟩
  case round =>
    obtain ⟨k, fs', rfl, hk1, hk2, hlen, hr, hg, HQ'⟩ := hrel
    clear hv
    by_cases hlt : k < n
    · obtain ⟨wo, rfl⟩ : ∃ wo : World, wo = wr := ⟨_, rfl⟩
      go_wp2_with fail
      go_loopw [9] (fun j wr => ∃ (m : Nat) (fs'' : List FD), j = .int .i64 m ∧ m ≤ k ∧ fs''.length = n ∧ RowsAt wr 72 g off 4 (fs''.map fxRow) ∧ w.grownBy wr (some g) ∧ Hid (∀ f ∈ fs'', Q f)) (fun j _ => (intOf j).toNat)
      case atStart => exact ⟨k, fs', rfl, Nat.le_refl _, hlen, hr, hg, HQ'⟩
      case round =>
        clear hr hg HQ'
        obtain ⟨m, fs'', rfl, hm, hlen', hr', hg', HQ''⟩ := hrel
        by_cases hm0 : m = 0
        · subst hm0
          go_wp2_with fail
          go_quiet (fail)
          go_wp2_with fail
          go_roundw
          case rel => exact ⟨k + 1, fs'', by go_num, by omega, by omega, hlen', hr', gb_trans hg' (gb_drewN _ _ _), HQ''⟩
          case measure => simp [intOf]; omega
        · obtain ⟨fm, hfm⟩ : ∃ f, fs''[m]? = some f := ⟨_, List.getElem?_eq_getElem (show m < fs''.length by omega)⟩
          obtain ⟨fp, hfp⟩ : ∃ f, fs''[m - 1]? = some f := ⟨_, List.getElem?_eq_getElem (show m - 1 < fs''.length by omega)⟩
          obtain ⟨a0, a1, a2, a3⟩ := fx_cells hr' hfm
          obtain ⟨b0, b1, b2, b3⟩ := fx_cells hr' hfp
          have Hfm := Lib.hid hfm
          have Hfp := Lib.hid hfp
          have e0 : 0 < m := by omega
          have e0' : decide (0 < m) = true := decide_eq_true e0
          have w1 : IntKind.i64.wrap ((m : Int) - 1) = ((m - 1 : Nat) : Int) := by rw [IntWalk.i64_in _ (by omega)]; omega
          have w2 : ((m - 1 : Nat) : Int) < (n : Int) := by omega
          have w3 : (m : Int) < (n : Int) := by omega
          have HS := Lib.hid (show ∀ w', Below wr.heap.size wr w' → (Below wr.heap.size wr w' ∧ w'.cell? ⟨g, off + m * 4, none⟩ = some (.int .i64 fm.week) ∧ w'.cell? ⟨g, off + m * 4 + 1, none⟩ = some (.int .i64 fm.moment) ∧ w'.cell? ⟨g, off + m * 4 + 2, none⟩ = some (.string fm.home) ∧ w'.cell? ⟨g, off + m * 4 + 3, none⟩ = some (.string fm.away) ∧ w'.cell? ⟨g, off + (m - 1) * 4, none⟩ = some (.int .i64 fp.week) ∧ w'.cell? ⟨g, off + (m - 1) * 4 + 1, none⟩ = some (.int .i64 fp.moment) ∧ w'.cell? ⟨g, off + (m - 1) * 4 + 2, none⟩ = some (.string fp.home) ∧ w'.cell? ⟨g, off + (m - 1) * 4 + 3, none⟩ = some (.string fp.away)) from fun w' hb => ⟨hb, below_cell hb a0, below_cell hb a1, below_cell hb a2, below_cell hb a3, below_cell hb b0, below_cell hb b1, below_cell hb b2, below_cell hb b3⟩)
          have hb0 := (Below.refl wr.heap.size wr).drew
          clear hfm hfp a0 a1 a2 a3 b0 b1 b2 b3
          go_upto_region 4 with fail
          refine wp_region_held_drew (S := fun w' => Below wr.heap.size wr w' ∧ w'.cell? ⟨g, off + m * 4, none⟩ = some (.int .i64 fm.week) ∧ w'.cell? ⟨g, off + m * 4 + 1, none⟩ = some (.int .i64 fm.moment) ∧ w'.cell? ⟨g, off + m * 4 + 2, none⟩ = some (.string fm.home) ∧ w'.cell? ⟨g, off + m * 4 + 3, none⟩ = some (.string fm.away) ∧ w'.cell? ⟨g, off + (m - 1) * 4, none⟩ = some (.int .i64 fp.week) ∧ w'.cell? ⟨g, off + (m - 1) * 4 + 1, none⟩ = some (.int .i64 fp.moment) ∧ w'.cell? ⟨g, off + (m - 1) * 4 + 2, none⟩ = some (.string fp.home) ∧ w'.cell? ⟨g, off + (m - 1) * 4 + 3, none⟩ = some (.string fp.away)) (by kernel_rfl) ?_ (fun hHeld => ?_)
          · (exact HS.out _ (by first | assumption | exact hHeld.1 | exact below_step hHeld.1 (by assumption) | exact below_step hHeld.1 (below_alloc _ _)))
          refine take_at 0 18 (v := ?_) rfl rfl (by kernel_rfl) (by kernel_rfl) (by kernel_rfl) (fun _ _ _ h => h) (by rfl) ?y0 (by assumption) ?r0
          case y0 =>
            intro w hSw
            try dsimp only at hSw
            go_simp
            try with_reducible rfl
          simp only [List.set_cons_zero, List.set_cons_succ]
          refine take_at 1 19 (v := ?_) rfl rfl (by kernel_rfl) (by kernel_rfl) (by kernel_rfl) (fun _ _ _ h => h) (by rfl) ?y1 (by assumption) ?r1
          case y1 =>
            intro w hSw
            try dsimp only at hSw
            go_simp
            try with_reducible rfl
          simp only [List.set_cons_zero, List.set_cons_succ]
          refine take_at 2 20 (v := ?_) rfl rfl (by kernel_rfl) (by kernel_rfl) (by kernel_rfl) (fun _ _ _ h => h) (by rfl) ?y2 (by assumption) ?r2
          case y2 =>
            intro w hSw
            try dsimp only at hSw
            go_simp
            try with_reducible rfl
          simp only [List.set_cons_zero, List.set_cons_succ]
          refine take_at 3 21 (v := ?_) rfl rfl (by kernel_rfl) (by kernel_rfl) (by kernel_rfl) (fun _ _ _ h => h) (by rfl) ?y3 (by assumption) ?r3
          case y3 =>
            intro w hSw
            try dsimp only at hSw
            go_simp
            try with_reducible rfl
          simp only [List.set_cons_zero, List.set_cons_succ]
          refine take_at 4 22 (v := ?_) rfl rfl (by kernel_rfl) (by kernel_rfl) (by kernel_rfl) (fun _ _ _ h => h) (by rfl) ?y4 (by assumption) ?r4
          case y4 =>
            intro w hSw
            try dsimp only at hSw
            go_simp
            try with_reducible rfl
          simp only [List.set_cons_zero, List.set_cons_succ]
          refine take_at 5 23 (v := ?_) rfl rfl (by kernel_rfl) (by kernel_rfl) (by kernel_rfl) (fun _ _ _ h => h) (by rfl) ?y5 (by assumption) ?r5
          case y5 =>
            intro w hSw
            try dsimp only at hSw
            go_simp
            try with_reducible rfl
          simp only [List.set_cons_zero, List.set_cons_succ]
          refine take_at 6 24 (v := ?_) rfl rfl (by kernel_rfl) (by kernel_rfl) (by kernel_rfl) (fun _ _ _ h => h) (by rfl) ?y6 (by assumption) ?r6
          case y6 =>
            intro w hSw
            try dsimp only at hSw
            go_simp
            try with_reducible rfl
          simp only [List.set_cons_zero, List.set_cons_succ]
          refine take_at 7 25 (v := ?_) rfl rfl (by kernel_rfl) (by kernel_rfl) (by kernel_rfl) (fun _ _ _ h => h) (by rfl) ?y7 (by assumption) ?r7
          case y7 =>
            intro w hSw
            try dsimp only at hSw
            go_simp
            try with_reducible rfl
          simp only [List.set_cons_zero, List.set_cons_succ]
          refine take_at 8 26 (v := ?_) rfl rfl (by kernel_rfl) (by kernel_rfl) (by kernel_rfl) (fun _ _ _ h => h) (by rfl) ?y8 (by assumption) ?r8
          case y8 =>
            intro w hSw
            try dsimp only at hSw
            go_simp
            try with_reducible rfl
          simp only [List.set_cons_zero, List.set_cons_succ]
          refine take_at 9 27 (v := ?_) rfl rfl (by kernel_rfl) (by kernel_rfl) (by kernel_rfl) (fun _ _ _ h => h) (by rfl) ?y9 (by assumption) ?r9
          case y9 =>
            intro w hSw
            try dsimp only at hSw
            go_simp
            try with_reducible rfl
          simp only [List.set_cons_zero, List.set_cons_succ]
          refine take_at 10 28 (v := ?_) rfl rfl (by kernel_rfl) (by kernel_rfl) (by kernel_rfl) (fun _ _ _ h => h) (by rfl) ?y10 (by assumption) ?r10
          case y10 =>
            intro w hSw
            try dsimp only at hSw
            go_simp
            try with_reducible rfl
          simp only [List.set_cons_zero, List.set_cons_succ]
          refine take_at 11 29 (v := ?_) rfl rfl (by kernel_rfl) (by kernel_rfl) (by kernel_rfl) (fun _ _ _ h => h) (by rfl) ?y11 (by assumption) ?r11
          case y11 =>
            intro w hSw
            try dsimp only at hSw
            go_simp
            try with_reducible rfl
          simp only [List.set_cons_zero, List.set_cons_succ]
          refine take_at 12 30 (v := ?_) rfl rfl (by kernel_rfl) (by kernel_rfl) (by kernel_rfl) (fun _ _ _ h => h) (by rfl) ?y12 (by assumption) ?r12
          case y12 =>
            intro w hSw
            try dsimp only at hSw
            go_simp
            try with_reducible rfl
          simp only [List.set_cons_zero, List.set_cons_succ]
          refine take_at 13 31 (v := ?_) rfl rfl (by kernel_rfl) (by kernel_rfl) (by kernel_rfl) (fun _ _ _ h => h) (by rfl) ?y13 (by assumption) ?r13
          case y13 =>
            intro w hSw
            try dsimp only at hSw
            go_simp
            try with_reducible rfl
          simp only [List.set_cons_zero, List.set_cons_succ]
          refine run_at 14 rfl (by kernel_rfl) (by rfl) (fun K hK => ?_)
          go_simp
          refine (fxCmp_calls fm fp _).mono ?_
          rintro e w' ⟨x, rfl, hb⟩
          go_wp2_with fail
          refine hK.out _ _ ?_ (fun hHeld => ?_)
          · (exact HS.out _ (by first | assumption | exact hHeld.1 | exact below_step hHeld.1 (by assumption) | exact below_step hHeld.1 (below_alloc _ _)))
          clear hK K
          try simp only [Act.put, List.setIfInBounds_toArray, List.set_cons_zero, List.set_cons_succ]
          refine take_at 15 33 (v := ?_) rfl rfl (by kernel_rfl) (by kernel_rfl) (by kernel_rfl) (fun _ _ _ h => h) (by rfl) ?y15 (by assumption) ?r15
          case y15 =>
            intro w hSw
            try dsimp only at hSw
            go_simp
            try with_reducible rfl
          simp only [List.set_cons_zero, List.set_cons_succ]
          refine take_at 16 34 (v := ?_) rfl rfl (by kernel_rfl) (by kernel_rfl) (by kernel_rfl) (fun _ _ _ h => h) (by rfl) ?y16 (by assumption) ?r16
          case y16 =>
            intro w hSw
            try dsimp only at hSw
            go_simp
            try with_reducible rfl
          simp only [List.set_cons_zero, List.set_cons_succ]
          refine wpAnyH_done (by kernel_rfl) ?_ _
          have hB := hHeld.1
          by_cases hx : x < 0
          · have d1 : decide (x < 0) = true := decide_eq_true hx
            obtain ⟨-, c0, c1, c2, c3, d0, d1', d2, d3⟩ := hHeld
            have f0 := fun o => (hr'.below hB).free o
            go_wp2_with fail
            go_region
            go_wp2_with fail
            go_roundw
            case rel =>
              refine ⟨m - 1, (fs''.set m fp).set (m - 1) fm, rfl, by omega, by simpa using hlen', ?_, ?_, ?_⟩
              · exact RowsAt.drew (fx_set4 (fx_set4 (hr'.below hB) Hfm.out fp) (by rw [List.getElem?_set_ne (by omega)]; exact Hfp.out) fm)
              · exact gb_drew' (gb_trans hg' (gb_trans (gb_below hB _) (gb_trans (gb_set4 _ _ _ _ _ _ _) (gb_set4 _ _ _ _ _ _ _))))
              · refine Lib.hid fun f hf => ?_
                rcases List.mem_or_eq_of_mem_set hf with hf | rfl
                · rcases List.mem_or_eq_of_mem_set hf with hf | rfl
                  · exact HQ''.out f hf
                  · exact HQ''.out _ (List.mem_of_getElem? Hfp.out)
                · exact HQ''.out _ (List.mem_of_getElem? Hfm.out)
            case measure => simp [intOf]; omega
          · have d1 : decide (x < 0) = false := decide_eq_false hx
            clear hHeld
            go_wp2_with fail
            go_roundw
            case rel => exact ⟨k + 1, fs'', by go_num, by omega, by omega, hlen', hr'.below hB, gb_trans hg' (gb_below hB _), HQ''⟩
            case measure => simp [intOf]; omega
    · go_wp2_with fail
      go_end0
      exact ⟨rfl, fs', hlen, hr, hg, HQ'.out⟩

set_option maxRecDepth 100000 in
set_option maxHeartbeats 2000000 in
theorem stableFx_calls (Q : FD → Prop) (g off cap : Nat) (fs : List FD) (w : World) (hv : RowsAt w 72 g off 4 (fs.map fxRow)) (hn : fs.length ≤ 19) (hQ : ∀ f ∈ fs, Q f) :
    Calls Tryz.prog 166 #[.slice (some ⟨g, off, none⟩) fs.length cap, .int .i64 (fs.length : Int), fxcFn] w (SortedFx Q g off fs.length w) := by
  have C := Lib.hid (insFx_calls Q g off cap fs w hv (by omega) hQ)
  clear hv hQ
  generalize fs.length = n at hn C ⊢
  have e1 : decide (20 ≤ n) = false := by simp; omega
  have e2 : decide (20 < n) = false := by simp; omega
  go_enter Tryz.func166, Tryz.ntmps166
  go_wp2_with fail
  refine wp_loop_rounds 1 ?_
  rw [rounds_succ]
  go_wp2_with fail
  refine (C.out).mono ?_
  rintro e w' ⟨rfl, fs', h1, h2, h3, h4⟩
  have H := Lib.hid (And.intro h2 h4)
  clear h2 h4
  go_wp2_with fail
  refine wp_loop_rounds 1 ?_
  rw [rounds_succ]
  go_wp2_with fail
  go_end0
  exact ⟨rfl, fs', h1, H.out.1, h3, H.out.2⟩
set_option maxRecDepth 100000 in
set_option maxHeartbeats 2000000 in
theorem sortFx_calls (Q : FD → Prop) (g off cap : Nat) (fs : List FD) (w : World) (hv : RowsAt w 72 g off 4 (fs.map fxRow)) (hn : fs.length ≤ 19) (hQ : ∀ f ∈ fs, Q f) :
    Calls Tryz.prog 95 #[.slice (some ⟨g, off, none⟩) fs.length cap, fxcFn] w (SortedFx Q g off fs.length w) := by
  have C := Lib.hid (stableFx_calls Q g off cap fs w hv hn hQ)
  clear hv hQ
  generalize fs.length = n at hn C ⊢
  go_enter Tryz.func95, Tryz.ntmps95
  go_wp2_with fail
  refine (C.out).mono ?_
  rintro e w' ⟨rfl, fs', h1, h2, h3, h4⟩
  have H := Lib.hid (And.intro h2 h4)
  clear h2 h4
  go_wp2_with fail
  go_end0
  exact ⟨rfl, fs', h1, H.out.1, h3, H.out.2⟩
set_option maxRecDepth 100000 in
set_option maxHeartbeats 2000000 in
theorem insFx0_calls (w : World) : Calls Tryz.prog 205 #[.slice none 0 0, .int .i64 0, .int .i64 0, fxcFn] w fun e w' => e = .returned (.tuple #[]) ∧ w = w' := by
  go_enter Tryz.func205, Tryz.ntmps205
  go_wp2_with fail
  refine wp_loop_rounds 1 ?_
  rw [rounds_succ]
  go_wp2_with fail
  go_end0
  exact ⟨rfl, rfl⟩
set_option maxRecDepth 100000 in
set_option maxHeartbeats 2000000 in
theorem stableFx0_calls (w : World) : Calls Tryz.prog 166 #[.slice none 0 0, .int .i64 0, fxcFn] w fun e w' => e = .returned (.tuple #[]) ∧ w = w' := by
  go_enter Tryz.func166, Tryz.ntmps166
  go_wp2_with fail
  refine wp_loop_rounds 1 ?_
  rw [rounds_succ]
  go_wp2_with fail
  refine (insFx0_calls w).mono ?_
  rintro e w' ⟨rfl, rfl⟩
  go_wp2_with fail
  refine wp_loop_rounds 1 ?_
  rw [rounds_succ]
  go_wp2_with fail
  go_end0
  exact ⟨rfl, rfl⟩
set_option maxRecDepth 100000 in
set_option maxHeartbeats 2000000 in
theorem sortFx0_calls (w : World) : Calls Tryz.prog 95 #[.slice none 0 0, fxcFn] w fun e w' => e = .returned (.tuple #[]) ∧ w = w' := by
  go_enter Tryz.func95, Tryz.ntmps95
  go_wp2_with fail
  refine (stableFx0_calls w).mono ?_
  rintro e w' ⟨rfl, rfl⟩
  go_wp2_with fail
  go_end0
  exact ⟨rfl, rfl⟩
end Go.Proofs.YtmjkbmkjnbpgeaaGreatDoor
namespace Go.Proofs.YtmjkbmkjnbpgeaaGreatDoor
open Go.RowKit

/-- Some fixtures, no more than n, that have Q; of old memory one block alone has changed. -/
def SomeFx (Q : FD → Prop) (lo n : Nat) (w : World) (row : Option Nat) (e : Ending) (w' : World) : Prop := ∃ v' fs', e = .returned v' ∧ Fxs w' lo v' fs' ∧ fs'.length ≤ n ∧ w.grownBy w' row ∧ ∀ f ∈ fs', Q f
theorem fx_cells' {w : World} {g off i j : Nat} {fs : List FD} {f : FD} (h : RowsAt w 72 g off 4 (fs.map fxRow)) (hf : fs[i + j]? = some f) :
    w.cell? ⟨g, off + i * 4 + j * 4, none⟩ = some (.int .i64 f.week) ∧ w.cell? ⟨g, off + i * 4 + j * 4 + 1, none⟩ = some (.int .i64 f.moment) ∧ w.cell? ⟨g, off + i * 4 + j * 4 + 2, none⟩ = some (.string f.home) ∧ w.cell? ⟨g, off + i * 4 + j * 4 + 3, none⟩ = some (.string f.away) := by
  have := fx_cells h hf
  rw [Nat.add_mul, ← Nat.add_assoc] at this
  exact this

set_option maxRecDepth 100000 in
set_option maxHeartbeats 4000000 in
theorem compactFx_calls (Q : FD → Prop) (g off cap lo : Nat) (fs : List FD) (w : World) (hv : RowsAt w 72 g off 4 (fs.map fxRow)) (hn : fs.length ≤ 1000000) (hcap : fs.length ≤ cap) (hl : lo ≤ g) (hQ : ∀ f ∈ fs, Q f) :
    Calls Tryz.prog 99 #[.slice (some ⟨g, off, none⟩) fs.length cap, fxeFn] w (SomeFx Q lo fs.length w (some g)) := by
  have HQ := Lib.hid hQ
  clear hQ
  have HF := Lib.hid (show ∀ (fs' : List FD) (w' : World) (c : Nat), RowsAt w' 72 g off 4 (fs'.map fxRow) → fs'.length ≤ 1000000 → fs'.length ≤ c → Fxs w' lo (.slice (some ⟨g, off, none⟩) fs'.length c) fs' from fun fs' w' c h hn hc => by
    have := h.rows (cap := c) (by simpa using hn) hl (by simpa using hc)
    simpa [Fxs] using this)
  obtain ⟨n, hnn⟩ : ∃ n, fs.length = n := ⟨_, rfl⟩
  have HN := Lib.hid hnn
  rw [hnn] at hn hcap ⊢
  by_cases hn2 : n < 2
  · go_enter Tryz.func99, Tryz.ntmps99
    go_wp2_with fail
    go_ret
    exact ⟨_, fs, rfl, by rw [← HN.out]; exact HF.out fs w cap hv (by omega) (by omega), by omega, gb_refl _ _, HQ.out⟩
  · have en2 : decide (n < 2) = false := decide_eq_false hn2
    have en3 : 1 < n := by omega
    go_enter Tryz.func99, Tryz.ntmps99
    go_wp2_with fail
    go_loopw [5] (fun i wr => ∃ k : Nat, i = .int .i64 k ∧ 1 ≤ k ∧ k ≤ n ∧ Below w.heap.size w wr) (fun i _ => n - (intOf i).toNat)
    case atStart => exact ⟨1, rfl, by omega, by omega, Below.refl _ _⟩
    case round =>
      obtain ⟨k, rfl, hk1, hk2, hb⟩ := hrel
      have hr := hv.below hb
      by_cases hlt : k < n
      · obtain ⟨fm, hfm⟩ : ∃ f, fs[k]? = some f := ⟨_, List.getElem?_eq_getElem (show k < fs.length by omega)⟩
        obtain ⟨fp, hfp⟩ : ∃ f, fs[k - 1]? = some f := ⟨_, List.getElem?_eq_getElem (show k - 1 < fs.length by omega)⟩
        obtain ⟨a0, a1, a2, a3⟩ := fx_cells hr hfm
        obtain ⟨b0, b1, b2, b3⟩ := fx_cells hr hfp
        have w1 : IntKind.i64.wrap ((k : Int) - 1) = ((k - 1 : Nat) : Int) := by rw [IntWalk.i64_in _ (by omega)]; omega
        have w2 : ((k - 1 : Nat) : Int) < (n : Int) := by omega
        have w3 : (k : Int) < (n : Int) := by omega
        have HS := Lib.hid (show ∀ w', Below wr.heap.size wr w' → (Below wr.heap.size wr w' ∧ w'.cell? ⟨g, off + k * 4, none⟩ = some (.int .i64 fm.week) ∧ w'.cell? ⟨g, off + k * 4 + 1, none⟩ = some (.int .i64 fm.moment) ∧ w'.cell? ⟨g, off + k * 4 + 2, none⟩ = some (.string fm.home) ∧ w'.cell? ⟨g, off + k * 4 + 3, none⟩ = some (.string fm.away) ∧ w'.cell? ⟨g, off + (k - 1) * 4, none⟩ = some (.int .i64 fp.week) ∧ w'.cell? ⟨g, off + (k - 1) * 4 + 1, none⟩ = some (.int .i64 fp.moment) ∧ w'.cell? ⟨g, off + (k - 1) * 4 + 2, none⟩ = some (.string fp.home) ∧ w'.cell? ⟨g, off + (k - 1) * 4 + 3, none⟩ = some (.string fp.away)) from fun w' hb => ⟨hb, below_cell hb a0, below_cell hb a1, below_cell hb a2, below_cell hb a3, below_cell hb b0, below_cell hb b1, below_cell hb b2, below_cell hb b3⟩)
        have hb0 := (Below.refl wr.heap.size wr).drew
        clear hfm hfp a0 a1 a2 a3 b0 b1 b2 b3 hv
        go_upto_region 6 with fail
        refine wp_region_held_drew (S := fun w' => Below wr.heap.size wr w' ∧ w'.cell? ⟨g, off + k * 4, none⟩ = some (.int .i64 fm.week) ∧ w'.cell? ⟨g, off + k * 4 + 1, none⟩ = some (.int .i64 fm.moment) ∧ w'.cell? ⟨g, off + k * 4 + 2, none⟩ = some (.string fm.home) ∧ w'.cell? ⟨g, off + k * 4 + 3, none⟩ = some (.string fm.away) ∧ w'.cell? ⟨g, off + (k - 1) * 4, none⟩ = some (.int .i64 fp.week) ∧ w'.cell? ⟨g, off + (k - 1) * 4 + 1, none⟩ = some (.int .i64 fp.moment) ∧ w'.cell? ⟨g, off + (k - 1) * 4 + 2, none⟩ = some (.string fp.home) ∧ w'.cell? ⟨g, off + (k - 1) * 4 + 3, none⟩ = some (.string fp.away)) (by kernel_rfl) ?_ (fun hHeld => ?_)
        · (exact HS.out _ (by first | assumption | exact hHeld.1 | exact below_step hHeld.1 (by assumption) | exact below_step hHeld.1 (below_alloc _ _)))
        refine take_at 0 18 (v := ?_) rfl rfl (by kernel_rfl) (by kernel_rfl) (by kernel_rfl) (fun _ _ _ h => h) (by rfl) ?y0 (by assumption) ?r0
        case y0 =>
          intro w hSw
          try dsimp only at hSw
          go_simp
          try with_reducible rfl
        simp only [List.set_cons_zero, List.set_cons_succ]
        refine take_at 1 19 (v := ?_) rfl rfl (by kernel_rfl) (by kernel_rfl) (by kernel_rfl) (fun _ _ _ h => h) (by rfl) ?y1 (by assumption) ?r1
        case y1 =>
          intro w hSw
          try dsimp only at hSw
          go_simp
          try with_reducible rfl
        simp only [List.set_cons_zero, List.set_cons_succ]
        refine take_at 2 20 (v := ?_) rfl rfl (by kernel_rfl) (by kernel_rfl) (by kernel_rfl) (fun _ _ _ h => h) (by rfl) ?y2 (by assumption) ?r2
        case y2 =>
          intro w hSw
          try dsimp only at hSw
          go_simp
          try with_reducible rfl
        simp only [List.set_cons_zero, List.set_cons_succ]
        refine take_at 3 21 (v := ?_) rfl rfl (by kernel_rfl) (by kernel_rfl) (by kernel_rfl) (fun _ _ _ h => h) (by rfl) ?y3 (by assumption) ?r3
        case y3 =>
          intro w hSw
          try dsimp only at hSw
          go_simp
          try with_reducible rfl
        simp only [List.set_cons_zero, List.set_cons_succ]
        refine take_at 4 22 (v := ?_) rfl rfl (by kernel_rfl) (by kernel_rfl) (by kernel_rfl) (fun _ _ _ h => h) (by rfl) ?y4 (by assumption) ?r4
        case y4 =>
          intro w hSw
          try dsimp only at hSw
          go_simp
          try with_reducible rfl
        simp only [List.set_cons_zero, List.set_cons_succ]
        refine take_at 5 23 (v := ?_) rfl rfl (by kernel_rfl) (by kernel_rfl) (by kernel_rfl) (fun _ _ _ h => h) (by rfl) ?y5 (by assumption) ?r5
        case y5 =>
          intro w hSw
          try dsimp only at hSw
          go_simp
          try with_reducible rfl
        simp only [List.set_cons_zero, List.set_cons_succ]
        refine take_at 6 24 (v := ?_) rfl rfl (by kernel_rfl) (by kernel_rfl) (by kernel_rfl) (fun _ _ _ h => h) (by rfl) ?y6 (by assumption) ?r6
        case y6 =>
          intro w hSw
          try dsimp only at hSw
          go_simp
          try with_reducible rfl
        simp only [List.set_cons_zero, List.set_cons_succ]
        refine take_at 7 25 (v := ?_) rfl rfl (by kernel_rfl) (by kernel_rfl) (by kernel_rfl) (fun _ _ _ h => h) (by rfl) ?y7 (by assumption) ?r7
        case y7 =>
          intro w hSw
          try dsimp only at hSw
          go_simp
          try with_reducible rfl
        simp only [List.set_cons_zero, List.set_cons_succ]
        refine take_at 8 26 (v := ?_) rfl rfl (by kernel_rfl) (by kernel_rfl) (by kernel_rfl) (fun _ _ _ h => h) (by rfl) ?y8 (by assumption) ?r8
        case y8 =>
          intro w hSw
          try dsimp only at hSw
          go_simp
          try with_reducible rfl
        simp only [List.set_cons_zero, List.set_cons_succ]
        refine take_at 9 27 (v := ?_) rfl rfl (by kernel_rfl) (by kernel_rfl) (by kernel_rfl) (fun _ _ _ h => h) (by rfl) ?y9 (by assumption) ?r9
        case y9 =>
          intro w hSw
          try dsimp only at hSw
          go_simp
          try with_reducible rfl
        simp only [List.set_cons_zero, List.set_cons_succ]
        refine run_at 10 rfl (by kernel_rfl) (by rfl) (fun K hK => ?_)
        go_simp
        refine (fxEq_calls fm fp _).mono ?_
        rintro e w' ⟨x, rfl, hb'⟩
        go_wp2_with fail
        refine hK.out _ _ ?_ (fun hHeld => ?_)
        · (exact HS.out _ (by first | assumption | exact hHeld.1 | exact below_step hHeld.1 (by assumption) | exact below_step hHeld.1 (below_alloc _ _)))
        clear hK K
        try simp only [Act.put, List.setIfInBounds_toArray, List.set_cons_zero, List.set_cons_succ]
        refine wpAnyH_done (by kernel_rfl) ?_ _
        have hB := hHeld.1
        clear hHeld
        cases x
        · go_wp2_with fail
          go_roundw
          case rel => exact ⟨k + 1, by go_num, by omega, by omega, below_step hb hB⟩
          case measure => simp [intOf]; omega
        · have hr1 := hr.below hB
          have hg1 := gb_below (below_step hb hB) (some g)
          clear HS hb0 hb w1 w2 w3 hr hB
          obtain ⟨wo, rfl⟩ : ∃ wo : World, wo = w' := ⟨_, rfl⟩
          go_wp2_with fail
          go_loopw [5, 7] (fun i j wr => ∃ (a b : Nat) (fs' : List FD), i = .int .i64 a ∧ j = .int .i64 b ∧ 1 ≤ b ∧ k ≤ a ∧ a < k + b ∧ k + b ≤ n ∧ fs'.length = n ∧ RowsAt wr 72 g off 4 (fs'.map fxRow) ∧ w.grownBy wr (some g) ∧ Hid (∀ f ∈ fs', Q f)) (fun _ j _ => n - (intOf j).toNat)
          case atStart => exact ⟨k, 1, fs, rfl, rfl, by omega, by omega, by omega, by omega, HN.out, hr1, hg1, HQ⟩
          case round =>
            clear hr1 hg1
            obtain ⟨a, b, fs', rfl, rfl, hb1, ha1, hab, hbn, hlen, hr2, hg2, HQ'⟩ := hrel
            by_cases hlt2 : b < n - k
            · obtain ⟨fm, hfm⟩ : ∃ f, fs'[k + b]? = some f := ⟨_, List.getElem?_eq_getElem (show k + b < fs'.length by omega)⟩
              obtain ⟨fp, hfp⟩ : ∃ f, fs'[k + (b - 1)]? = some f := ⟨_, List.getElem?_eq_getElem (show k + (b - 1) < fs'.length by omega)⟩
              obtain ⟨fa, hfa⟩ : ∃ f, fs'[a]? = some f := ⟨_, List.getElem?_eq_getElem (show a < fs'.length by omega)⟩
              obtain ⟨a0, a1, a2, a3⟩ := fx_cells' hr2 hfm
              obtain ⟨b0, b1, b2, b3⟩ := fx_cells' hr2 hfp
              have Hfm := Lib.hid hfm
              have Hfa := Lib.hid hfa
              have w1 : IntKind.i64.wrap ((b : Int) - 1) = ((b - 1 : Nat) : Int) := by rw [IntWalk.i64_in _ (by omega)]; omega
              have w2 : ((b - 1 : Nat) : Int) < ((n - k : Nat) : Int) := by omega
              have w3 : (b : Int) < ((n - k : Nat) : Int) := by omega
              have HS := Lib.hid (show ∀ w', Below wr.heap.size wr w' → (Below wr.heap.size wr w' ∧ w'.cell? ⟨g, off + k * 4 + b * 4, none⟩ = some (.int .i64 fm.week) ∧ w'.cell? ⟨g, off + k * 4 + b * 4 + 1, none⟩ = some (.int .i64 fm.moment) ∧ w'.cell? ⟨g, off + k * 4 + b * 4 + 2, none⟩ = some (.string fm.home) ∧ w'.cell? ⟨g, off + k * 4 + b * 4 + 3, none⟩ = some (.string fm.away) ∧ w'.cell? ⟨g, off + k * 4 + (b - 1) * 4, none⟩ = some (.int .i64 fp.week) ∧ w'.cell? ⟨g, off + k * 4 + (b - 1) * 4 + 1, none⟩ = some (.int .i64 fp.moment) ∧ w'.cell? ⟨g, off + k * 4 + (b - 1) * 4 + 2, none⟩ = some (.string fp.home) ∧ w'.cell? ⟨g, off + k * 4 + (b - 1) * 4 + 3, none⟩ = some (.string fp.away)) from fun w' hb => ⟨hb, below_cell hb a0, below_cell hb a1, below_cell hb a2, below_cell hb a3, below_cell hb b0, below_cell hb b1, below_cell hb b2, below_cell hb b3⟩)
              have hb0 := (Below.refl wr.heap.size wr).drew
              clear hfm hfp hfa a0 a1 a2 a3 b0 b1 b2 b3
              go_upto_region 11 with fail
              refine wp_region_held_drew (S := fun w' => Below wr.heap.size wr w' ∧ w'.cell? ⟨g, off + k * 4 + b * 4, none⟩ = some (.int .i64 fm.week) ∧ w'.cell? ⟨g, off + k * 4 + b * 4 + 1, none⟩ = some (.int .i64 fm.moment) ∧ w'.cell? ⟨g, off + k * 4 + b * 4 + 2, none⟩ = some (.string fm.home) ∧ w'.cell? ⟨g, off + k * 4 + b * 4 + 3, none⟩ = some (.string fm.away) ∧ w'.cell? ⟨g, off + k * 4 + (b - 1) * 4, none⟩ = some (.int .i64 fp.week) ∧ w'.cell? ⟨g, off + k * 4 + (b - 1) * 4 + 1, none⟩ = some (.int .i64 fp.moment) ∧ w'.cell? ⟨g, off + k * 4 + (b - 1) * 4 + 2, none⟩ = some (.string fp.home) ∧ w'.cell? ⟨g, off + k * 4 + (b - 1) * 4 + 3, none⟩ = some (.string fp.away)) (by kernel_rfl) ?_ (fun hHeld => ?_)
              · (exact HS.out _ (by first | assumption | exact hHeld.1 | exact below_step hHeld.1 (by assumption) | exact below_step hHeld.1 (below_alloc _ _)))
              refine take_at 0 38 (v := ?_) rfl rfl (by kernel_rfl) (by kernel_rfl) (by kernel_rfl) (fun _ _ _ h => h) (by rfl) ?y0q (by assumption) ?r0q
              case y0q =>
                intro w hSw
                try dsimp only at hSw
                go_simp
                try with_reducible rfl
              simp only [List.set_cons_zero, List.set_cons_succ]
              refine take_at 1 39 (v := ?_) rfl rfl (by kernel_rfl) (by kernel_rfl) (by kernel_rfl) (fun _ _ _ h => h) (by rfl) ?y1q (by assumption) ?r1q
              case y1q =>
                intro w hSw
                try dsimp only at hSw
                go_simp
                try with_reducible rfl
              simp only [List.set_cons_zero, List.set_cons_succ]
              refine take_at 2 40 (v := ?_) rfl rfl (by kernel_rfl) (by kernel_rfl) (by kernel_rfl) (fun _ _ _ h => h) (by rfl) ?y2q (by assumption) ?r2q
              case y2q =>
                intro w hSw
                try dsimp only at hSw
                go_simp
                try with_reducible rfl
              simp only [List.set_cons_zero, List.set_cons_succ]
              refine take_at 3 41 (v := ?_) rfl rfl (by kernel_rfl) (by kernel_rfl) (by kernel_rfl) (fun _ _ _ h => h) (by rfl) ?y3q (by assumption) ?r3q
              case y3q =>
                intro w hSw
                try dsimp only at hSw
                go_simp
                try with_reducible rfl
              simp only [List.set_cons_zero, List.set_cons_succ]
              refine take_at 4 42 (v := ?_) rfl rfl (by kernel_rfl) (by kernel_rfl) (by kernel_rfl) (fun _ _ _ h => h) (by rfl) ?y4q (by assumption) ?r4q
              case y4q =>
                intro w hSw
                try dsimp only at hSw
                go_simp
                try with_reducible rfl
              simp only [List.set_cons_zero, List.set_cons_succ]
              refine take_at 5 43 (v := ?_) rfl rfl (by kernel_rfl) (by kernel_rfl) (by kernel_rfl) (fun _ _ _ h => h) (by rfl) ?y5q (by assumption) ?r5q
              case y5q =>
                intro w hSw
                try dsimp only at hSw
                go_simp
                try with_reducible rfl
              simp only [List.set_cons_zero, List.set_cons_succ]
              refine take_at 6 44 (v := ?_) rfl rfl (by kernel_rfl) (by kernel_rfl) (by kernel_rfl) (fun _ _ _ h => h) (by rfl) ?y6q (by assumption) ?r6q
              case y6q =>
                intro w hSw
                try dsimp only at hSw
                go_simp
                try with_reducible rfl
              simp only [List.set_cons_zero, List.set_cons_succ]
              refine take_at 7 45 (v := ?_) rfl rfl (by kernel_rfl) (by kernel_rfl) (by kernel_rfl) (fun _ _ _ h => h) (by rfl) ?y7q (by assumption) ?r7q
              case y7q =>
                intro w hSw
                try dsimp only at hSw
                go_simp
                try with_reducible rfl
              simp only [List.set_cons_zero, List.set_cons_succ]
              refine take_at 8 46 (v := ?_) rfl rfl (by kernel_rfl) (by kernel_rfl) (by kernel_rfl) (fun _ _ _ h => h) (by rfl) ?y8q (by assumption) ?r8q
              case y8q =>
                intro w hSw
                try dsimp only at hSw
                go_simp
                try with_reducible rfl
              simp only [List.set_cons_zero, List.set_cons_succ]
              refine take_at 9 47 (v := ?_) rfl rfl (by kernel_rfl) (by kernel_rfl) (by kernel_rfl) (fun _ _ _ h => h) (by rfl) ?y9q (by assumption) ?r9q
              case y9q =>
                intro w hSw
                try dsimp only at hSw
                go_simp
                try with_reducible rfl
              simp only [List.set_cons_zero, List.set_cons_succ]
              refine run_at 10 rfl (by kernel_rfl) (by rfl) (fun K hK => ?_)
              go_simp
              refine (fxEq_calls fm fp _).mono ?_
              rintro e w' ⟨x, rfl, hb'⟩
              go_wp2_with fail
              refine hK.out _ _ ?_ (fun hHeld => ?_)
              · (exact HS.out _ (by first | assumption | exact hHeld.1 | exact below_step hHeld.1 (by assumption) | exact below_step hHeld.1 (below_alloc _ _)))
              clear hK K
              try simp only [Act.put, List.setIfInBounds_toArray, List.set_cons_zero, List.set_cons_succ]
              refine take_at 11 49 (v := ?_) rfl rfl (by kernel_rfl) (by kernel_rfl) (by kernel_rfl) (fun _ _ _ h => h) (by rfl) ?y11q (by assumption) ?r11q
              case y11q =>
                intro w hSw
                try dsimp only at hSw
                go_simp
                try with_reducible rfl
              simp only [List.set_cons_zero, List.set_cons_succ]
              refine wpAnyH_done (by kernel_rfl) ?_ _
              have hB := hHeld.1
              obtain ⟨-, c0, c1, c2, c3, -, -, -, -⟩ := hHeld
              have hr3 := hr2.below hB
              cases x
              · have f0 := fun o => hr3.free o
                obtain ⟨p0, p1, p2, p3⟩ := fx_cells hr3 Hfa.out
                have w4 : (a : Int) < (n : Int) := by omega
                go_wp2_with fail
                go_roundw
                case rel =>
                  refine ⟨a + 1, b + 1, fs'.set a fm, by go_num, by go_num, by omega, by omega, by omega, by omega, by simpa using hlen, ?_, ?_, ?_⟩
                  · exact fx_set4 hr3 Hfa.out fm
                  · exact gb_trans hg2 (gb_trans (gb_below hB _) (gb_set4 _ _ _ _ _ _ _))
                  · exact Lib.hid fun f hf => by
                      rcases List.mem_or_eq_of_mem_set hf with hf | rfl
                      · exact HQ'.out f hf
                      · exact HQ'.out _ (List.mem_of_getElem? Hfm.out)
                case measure => simp [intOf]; omega
              · go_wp2_with fail
                go_roundw
                case rel => exact ⟨a, b + 1, fs', rfl, by go_num, by omega, by omega, by omega, by omega, hlen, hr3, gb_trans hg2 (gb_below hB _), HQ'⟩
                case measure => simp [intOf]; omega
            · obtain rfl : b = n - k := by omega
              obtain ⟨w4, hrun, hr4, hg4⟩ := run_clear_rows (P := Tryz.prog) (t := 51) (ty := 0) (sz := 4) (i := a) (n := n - a) (cap := cap - a) Tryz.underlying51 zero_fx rfl (by simp [Value.cells, Value.oneCell']) hr2 (by simp; omega) (by decide)
              have Hr4 := Lib.hid hr4
              have Hg4 := Lib.hid hg4
              have w4 : (a : Int) ≤ (n : Int) := by omega
              have w5 : a ≤ n := by omega
              clear hr4 hg4 hr2
              go_wp2_with fail
              go_ret
              refine ⟨_, fs'.take a, rfl, ?_, by simp; omega, gb_trans hg2 Hg4.out, fun x hx => HQ'.out x (List.mem_of_mem_take hx)⟩
              have h5 := Hr4.out
              rw [← List.map_take] at h5
              have h6 := HF.out (fs'.take a) _ cap h5 (by simp; omega) (by simp; omega)
              have e : (fs'.take a).length = a := by simp; omega
              rw [e] at h6
              exact h6
      · obtain rfl : k = n := by omega
        go_wp2_with fail
        go_ret
        exact ⟨_, fs, rfl, by rw [← HN.out]; exact HF.out fs _ cap hr (by omega) (by omega), by omega, gb_below hb _, HQ.out⟩
set_option maxRecDepth 100000 in
set_option maxHeartbeats 1000000 in
theorem compactFx0_calls (w : World) : Calls Tryz.prog 99 #[.slice none 0 0, fxeFn] w fun e w' => e = .returned (.slice none 0 0) ∧ w = w' := by
  go_enter Tryz.func99, Tryz.ntmps99
  go_wp2_with fail
  go_ret
  exact ⟨rfl, rfl⟩
end Go.Proofs.YtmjkbmkjnbpgeaaGreatDoor
