/- slices.Compare at ints. -/
import Derived.Test.YtfcaokpadodijaaGreatMgap
import Derived.Test.YtfcaokpadodijaaGreatMgan
import Derived.Test.YtfcaokpadodijaaGreatMgam
import Derived.Test.YtfcaokpadodijaaGreatMgaj
import Derived.Test.YtfcaokpadodijaaGreatMgaq
import Derived.Test.YtfcaokpadodijaaGreatShelf
/- The numbers of those with points above 0, those with the most first. -/
namespace Go.Proofs.YtfcaokpadodijaaGreat
open Go.RowKit

def Nums (w : World) (lo : Nat) (v : Value) (l : List Nat) : Prop := Rows w 3 lo 1 v (l.map inRow)
def winB (cs : List ScD) (i : Nat) : Bool := decide (0 < wthC (scAt cs i))
def winK (cs : List ScD) (k : Nat) : List Nat := (List.range k).filter (winB cs)
def winsL (cs : List ScD) : List Nat := sortN (wcmp cs) (winK cs cs.length)
theorem winK_succ (cs : List ScD) (k : Nat) : winK cs (k + 1) = if winB cs k then winK cs k ++ [k] else winK cs k := by
 unfold winK
 rw [List.range_succ, List.filter_append, List.filter_cons, List.filter_nil]
 split <;> simp
theorem winK_len (cs : List ScD) (k : Nat) : (winK cs k).length ≤ k := by
 have := List.length_filter_le (winB cs) (List.range k)
 simpa [winK] using this
theorem winK_lt {cs : List ScD} {k x : Nat} (h : x ∈ winK cs k) : x < k := List.mem_range.1 (List.mem_filter.1 h).1
theorem compareInt_neg (x y : Int) : (Lib.compareInt x y < 0 ↔ x < y) ∧ (Lib.compareInt x y = 0 ↔ x = y) ∧ (0 < Lib.compareInt x y ↔ y < x) := by
 unfold Lib.compareInt
 split
 ·omega
 ·split <;> omega
theorem wcmp_cases (cs : List ScD) (a b : Nat) : (wcmp cs a b < 0 ↔ wthC (scAt cs b) < wthC (scAt cs a) ∨ wthC (scAt cs b) = wthC (scAt cs a) ∧ a < b) ∧ (wcmp cs a b ≤ 0 ↔ wthC (scAt cs b) < wthC (scAt cs a) ∨ wthC (scAt cs b) = wthC (scAt cs a) ∧ a ≤ b) := by
 obtain ⟨h1, h2, h3⟩ := compareInt_neg (wthC (scAt cs b)) (wthC (scAt cs a))
 obtain ⟨k1, k2, k3⟩ := compareInt_neg (a : Int) (b : Int)
 unfold wcmp
 generalize Lib.compareInt (wthC (scAt cs b)) (wthC (scAt cs a)) = x at h1 h2 h3 ⊢
 generalize Lib.compareInt (a : Int) (b : Int) = y at k1 k2 k3 ⊢
 have e : firstE [x, y] = if x = 0 then y else x := by
  unfold firstE; by_cases hx : x = 0
  ·rw [if_pos hx, if_pos hx]
   unfold firstE firstE
   by_cases hy : y = 0
   ·rw [if_pos hy, hy]
   ·rw [if_neg hy]
  ·rw [if_neg hx, if_neg hx]
 rw [e]
 split <;> omega
theorem wins_perm (cs : List ScD) : (winsL cs).Perm (winK cs cs.length) := sortN_perm _
theorem wins_nodup (cs : List ScD) : (winsL cs).Nodup := (wins_perm cs).nodup_iff.2 (List.Pairwise.filter _ List.nodup_range)
theorem wins_mem (cs : List ScD) (x : Nat) : x ∈ winsL cs ↔ x < cs.length ∧ winB cs x = true := by
 rw [(wins_perm cs).mem_iff]
 simp [winK, List.mem_filter]
theorem wins_sorted (cs : List ScD) : (winsL cs).Pairwise fun a b => wthC (scAt cs b) ≤ wthC (scAt cs a) := by
 refine List.Pairwise.imp (fun {a b} h => ?_) (sortN_sorted (f := wcmp cs) (fun a b h => ?_) (fun a b c h1 h2 => ?_) (winK cs cs.length))
 ·have := (wcmp_cases cs a b).2.1 h; omega
 ·have h1 := (wcmp_cases cs a b).1
  have h2 := (wcmp_cases cs b a).2; rw [h1] at h; rw [h2]; omega
 ·have k1 := (wcmp_cases cs a b).2.1 h1
  have k2 := (wcmp_cases cs b c).2.1 h2; rw [(wcmp_cases cs a c).2]; omega
set_option maxRecDepth 100000 in
set_option maxHeartbeats 4000000 in
theorem winners_calls (lo : Nat) (v : Value) (cs : List ScD) (w : World) (hC : Scs w lo v cs) (hn : cs.length ≤ 12) (hF : ∀ c ∈ cs, FitW c) :
  Calls Tryz.prog 98 #[v] w fun e w' => ∃ v', e = .returned v' ∧ Nums w' w.heap.size v' (winsL cs) ∧ Below w.heap.size w w' := by
 obtain ⟨i0, hi, hz0, hz1, hz2⟩ := info_parts info_int
 have Hat := Lib.hid (scs_at hC)
 have HC := Lib.hid hC
 have HF := Lib.hid hF
 have Hl := Lib.hid (winK_len cs)
 have HR := Lib.hid (winK_succ cs)
 have HS := Lib.hid (show winsL cs = sortN (wcmp cs) (winK cs cs.length) from rfl)
 generalize winsL cs = E at HS ⊢
 obtain ⟨a, c, rfl⟩ := NRows.shape hC
 clear hC hF
 go_enter Tryz.func98, Tryz.ntmps98
 go_upto_region 1 with fail
 obtain ⟨V, hV⟩ : ∃ V, V = w.alloc (.cells #[.slice a cs.length c] 28) := ⟨_, rfl⟩
 have hbV : Below w.heap.size w V := by rw [hV]; exact below_alloc w _
 have hx : V.heap[w.heap.size]? = some (.cells #[.slice a cs.length c] 28 (0, 0)) := by rw [hV]; exact heap_alloc_new w _
 rw [← hV]
 obtain ⟨X, hX⟩ : ∃ X, w.heap.size = X := ⟨_, rfl⟩
 rw [hX] at hx ⊢
 have HX := Lib.hid hX
 clear hX hV
 have x0 := cell_at hx 0 rfl
 go_wp2_with fail
 clear x0
 go_loopw [3, 8] (fun out i wr => ∃ k : Nat, k ≤ cs.length ∧ i = .int .i64 k ∧ wr.ownsRow (X + 1) 3 1 out (winK cs k).length ((winK cs k).map fun (j : Nat) => .int .i64 (j : Int)) ∧ Hid (wr.heap[X]? = some (.cells #[.slice a cs.length c] 28 (0, 0))) ∧ Below w.heap.size w wr) (fun _ i _ => cs.length - (intOf i).toNat)
 case atStart => exact ⟨0, Nat.zero_le _, rfl, World.ownsRow_nil _ _ _ _, Lib.hid hx, hbV⟩
 case round =>
  clear hx hbV; obtain ⟨k, hk, rfl, hown, hx, hb⟩ := hrel; by_cases hlt : k < cs.length
  ·obtain ⟨s, hs⟩ : ∃ s, cs[k]? = some s := ⟨cs[k], List.getElem?_eq_getElem hlt⟩
   rcases Hat.out with ⟨_, h⟩ | ⟨g, off, cap, e, _, hg, _, hcell⟩
   ·rw [h] at hlt; simp at hlt
   simp only [Value.slice.injEq] at e
   obtain ⟨rfl, -, rfl⟩ := e; obtain ⟨pv, q0, q1, q2, q3, q4, hpv⟩ := hcell k s hs; obtain ⟨pa, pc, rfl⟩ := strs_shape hpv; have p0 := below_cell hb q0; have p1 := below_cell hb q1; have p2 := below_cell hb q2; have p3 := below_cell hb q3; have p4 := below_cell hb q4; have hfs := Lib.hid (HF.out s (List.mem_of_getElem? hs)); have Hw := Lib.hid (show winB cs k = decide (0 < wthC s) by unfold winB; rw [scAt_some hs])
   have hlt' : (k : Int) < (cs.length : Int) := by omega
   clear hs hcell q0 q1 q2 q3 q4 hpv; go_upto_region 5 with fail
   obtain ⟨wA, hwA⟩ : ∃ wA, wA = wr.alloc (.cells #[.string s.who, .slice pa s.pos.length pc, .int .i64 s.num, .int .i64 s.den, .bool s.played] 77) := ⟨_, rfl⟩
   have hbA : Below wr.heap.size wr wA := by rw [hwA]; exact below_alloc wr _
   have hz : wA.heap[wr.heap.size]? = some (.cells #[.string s.who, .slice pa s.pos.length pc, .int .i64 s.num, .int .i64 s.den, .bool s.played] 77 (0, 0)) := by rw [hwA]; exact heap_alloc_new wr _
   rw [← hwA]; have z0 := cell_at hz 0 rfl; have z1 := cell_at hz 1 rfl; have z2 := cell_at hz 2 rfl; have z3 := cell_at hz 3 rfl; have z4 := cell_at hz 4 rfl; clear hwA hz p0 p1 p2 p3 p4; go_wp2_with fail
   refine (wrth_calls s pa _ pc _ hfs.out).mono ?_; rintro e w2 ⟨rfl, hb2⟩; have hb12 := below_step hbA hb2; have hown2 := own_below hown hb12; have hx2 := Lib.hid (cells_later hx.out hb12); have hb02 := below_step hb hb12; clear hb2 hbA hown hb hb12 z0 z1 z2 z3 z4; have hsz2 := lt_of_heap hx2.out; obtain ⟨y, hy⟩ : ∃ y, wthC s = y := ⟨_, rfl⟩
   rw [hy] at Hw ⊢
   clear hy; by_cases hp : 0 < y
   ·have hp' : decide (0 < y) = true := decide_eq_true hp
    have Hnx := Lib.hid (show winK cs (k + 1) = winK cs k ++ [k] by rw [HR.out, Hw.out, hp']; rfl)
    have Hlk := Lib.hid (Hl.out k); go_wp2_with (at_builtin; refine wpList_append_own _ rfl _ _ 22 rfl (X + 1) 3 i0 (.int .i64 0) 1 8 Tryz.underlying22 hi hz0 hz1 hz2 rfl (by decide) _ _ _ rfl (hown2.alloc _) ⟨w2.heap.size, 0, none⟩ 1 1 [.int .i64 (k : Int)] rfl rfl ?c1 ?c2 ?c3 ?c4 ?c5 ?_)
    case c1 => exact cells_new _ _ _
    case c2 => simp [Value.oneCell']
    case c3 => have := Hlk.out; unfold maxLen; omega
    case c4 => have := Hlk.out; omega
    case c5 => have := Hlk.out; simp; omega
    intro v' w4 hown4 hgrow _; have HXo := HX.out; have hx4 := Lib.hid ((hgrow.block X (by simp; omega) (fun e => by have := (own_block hown2 X e.symm).1; omega)).trans (heap_al hx2.out _))
    go_wp2_with fail
    go_roundw
    case rel =>
     refine ⟨k + 1, by omega, by go_num, by rw [Hnx.out]; simpa using hown4, hx4, (below_step hb02 (below_alloc w2 (.cells #[.int .i64 (k : Int)] 3))).grown hgrow (by simp; omega) fun r hr => by have := (own_block hown2 r hr).1; omega⟩
    case measure => simp [intOf]; omega
   ·have hp' : decide (0 < y) = false := decide_eq_false hp
    have Hnx := Lib.hid (show winK cs (k + 1) = winK cs k by rw [HR.out, Hw.out, hp']; rfl)
    go_wp2_with fail
    go_roundw
    case rel => exact ⟨k + 1, by omega, by go_num, by rw [Hnx.out]; exact hown2, hx2, hb02⟩
    case measure => simp [intOf]; omega
  ·obtain rfl : k = cs.length := by omega
   have HXo := HX.out; have hlk := Hl.out cs.length; have hlt2 := fun x (h : x ∈ winK cs cs.length) => winK_lt h
   generalize winK cs cs.length = L at hown HS hlk hlt2
   have hx0 : wr.cell? ⟨X, 0, none⟩ = some (.slice a cs.length c) := cell_at hx.out 0 rfl
   have hfl : (L.map inRow).flatten = L.map fun (j : Nat) => Value.int .i64 (j : Int) := flatten_single (fun j : Nat => Value.int .i64 (j : Int)) _
   have hHS := HS.out; clear HS; by_cases hL : L = []
   ·subst hL
    obtain ⟨ad, cp, rfl⟩ := owns_shape hown; have hE : E = [] := by rw [hHS]; rfl
    subst hE; have C0 := Lib.hid (sort0_calls 128 #[.pointer (some ⟨X, 0, none⟩)] ad cp wr); have hown' := Lib.hid hown
    clear hlk hlt2 hown hfl hHS; simp only [List.length_nil] at hown' ⊢
    go_wp2_with fail
    refine C0.out.mono ?_; rintro e w' ⟨rfl, rfl⟩; go_wp2_with fail
    go_ret
    refine ⟨_, rfl, ?_, hb⟩; exact (Rows.of_owns (rows := ([] : List (List Value))) (by simpa using hown'.out) (by simp) (by simp)).mono (by omega)
   have h1 : 1 ≤ L.length := by
    rcases Nat.eq_zero_or_pos L.length with h | h
    ·exact absurd (List.eq_nil_of_length_eq_zero h) hL
    ·exact h
   rcases hown.2 with ⟨_, h0⟩ | ⟨g, cap, cur, rfl, hgb, hgc, hle, _⟩
   ·omega
   obtain ⟨hat, hcap⟩ := RowsAt.of_owns (sz := 1) (rows := L.map inRow) (by rw [hfl]; simpa using hown) (by simp [inRow])
   have hb' := Lib.hid hb
   have C0 := Lib.hid (sortN_calls 128 #[.pointer (some ⟨X, 0, none⟩)] (wcmp cs) g 0 cap L wr hat (by omega) h1 (by intro args w; go_simp) (fun W p q hp hq hg => by
    have hbW : Below w.heap.size w W := hb'.out.grown hg hb'.out.size (fun r hr => by cases hr; omega)
    have := wcmp_calls lo _ cs X p q W (HC.out.below hbW) (gb_cell hg hx0 (by omega)) (hlt2 p hp) (hlt2 q hq) (by omega) HF.out
    exact this))
   have HQ := Lib.hid (show ∀ e w', SortedN (wcmp cs) g 0 L wr e w' → e = .returned (.tuple #[]) ∧ RowsAt w' 3 g 0 1 (E.map inRow) ∧ wr.grownBy w' (some g) from fun e w' h => by rw [hHS]; exact h)
   have HEl := Lib.hid (show E.length = L.length by rw [hHS]; exact (sortN_perm _).length_eq)
   have Hgs := Lib.hid (show w.heap.size ≤ g ∧ L.length ≤ cap by omega)
   clear hat hcap hgc hle hfl hHS hx0 hown hlt2; go_wp2_with fail
   refine C0.out.mono ?_; intro e w' h; obtain ⟨rfl, hrw, hgw⟩ := HQ.out e w' h; go_wp2_with fail
   go_ret
   refine ⟨_, rfl, ?_, hb'.out.grown hgw hb'.out.size (fun r hr => by cases hr; have := Hgs.out; omega)⟩
   have := hrw.rows (lo := w.heap.size) (cap := cap) (by have := HEl.out; simp; omega) Hgs.out.1 (by have := HEl.out; have := Hgs.out; simp; omega)
   simpa [Nums, HEl.out] using this
end Go.Proofs.YtfcaokpadodijaaGreat
/- The numbers but one. -/
namespace Go.Proofs.YtfcaokpadodijaaGreat
open Go.RowKit

theorem Nums.below {w w' : World} {lo : Nat} {v : Value} {ks : List Nat} (h : Nums w lo v ks) (hb : Below w.heap.size w w') : Nums w' lo v ks := Rows.below h hb
theorem Nums.mono {w : World} {lo lo' : Nat} {v : Value} {ks : List Nat} (h : Nums w lo v ks) (hl : lo' ≤ lo) : Nums w lo' v ks := Rows.mono h hl
theorem nums_at {w : World} {lo : Nat} {v : Value} {ks : List Nat} (h : Nums w lo v ks) :
  (v = .slice none 0 0 ∧ ks = []) ∨ ∃ g off cap, v = .slice (some ⟨g, off, none⟩) ks.length cap ∧ lo ≤ g ∧ g < w.heap.size ∧ ks.length ≤ 1000000 ∧
   ∀ (i : Nat) (k : Nat), ks[i]? = some k → w.cell? ⟨g, off + i, none⟩ = some (.int .i64 (k : Int)) := by
 rcases rows_at h with ⟨e1, e2⟩ | ⟨g, off, cap, e1, e2, e3, hc⟩
 ·exact .inl ⟨e1, by simpa using e2⟩
 ·refine .inr ⟨g, off, cap, by simpa using e1, e2, e3, by simpa using h.small, fun i k hk => ?_⟩
  have := hc i 0 (.int .i64 (k : Int)) (by simp [hk, inRow])
  simpa using this
theorem nums_shape {w : World} {lo : Nat} {v : Value} {ks : List Nat} (h : Nums w lo v ks) : ∃ a c, v = .slice a ks.length c := by
 rcases nums_at h with ⟨rfl, rfl⟩ | ⟨g, off, cap, rfl, _⟩
 ·exact ⟨_, _, rfl⟩
 ·exact ⟨_, _, rfl⟩
def IdxFirstN (p : Nat → Bool) (ks : List Nat) (w : World) (e : Ending) (w' : World) : Prop :=
 ((e = .returned (.int .i64 (-1)) ∧ ∀ k ∈ ks, p k = false) ∨ ∃ i k, e = .returned (.int .i64 ((i : Nat) : Int)) ∧ ks[i]? = some k ∧ p k = true ∧ ∀ j g, j < i → ks[j]? = some g → p g = false) ∧ Below w.heap.size w w'
set_option maxRecDepth 100000 in
set_option maxHeartbeats 1000000 in
theorem indexNF_calls (g : Nat) (caps : Array Value) (p : Nat → Bool) (lo : Nat) (v : Value) (ks : List Nat) (w : World) (hv : Nums w lo v ks) (eg : ∀ args w, (callFunc g args).run Tryz.prog w = .ok (.enter g args) w)
  (hp : ∀ (W : World) (k : Nat), k ∈ ks → Below w.heap.size w W → Calls Tryz.prog g (#[.int .i64 (k : Int)] ++ caps) W (BoolIs (p k) W)) :
  Calls Tryz.prog 144 #[v, .func (.func g) #[] caps] w (IdxFirstN p ks w) := by
 have Hp := Lib.hid hp
 clear hp
 rcases nums_at hv with ⟨rfl, rfl⟩ | ⟨gg, off, cap, rfl, hlo, hg, hn, hcell⟩
 ·clear hv
  go_enter Tryz.func144, Tryz.ntmps144; go_wp2_with fail
  refine wp_loop_rounds 1 ?_; rw [rounds_succ]; go_wp2_with fail
  go_ret
  exact ⟨.inl ⟨rfl, by simp⟩, Below.refl _ _⟩
 ·have Hc := Lib.hid hcell
  clear hv hcell; go_enter Tryz.func144, Tryz.ntmps144; go_wp2_with fail
  go_loopw [8] (fun i wr => ∃ k : Nat, k ≤ ks.length ∧ i = .int .i64 k ∧ Hid (∀ j g, j < k → ks[j]? = some g → p g = false) ∧ Below w.heap.size w wr) (fun i _ => ks.length - (intOf i).toNat)
  case atStart => exact ⟨0, Nat.zero_le _, rfl, Lib.hid fun _ _ h => by omega, Below.refl _ _⟩
  case round =>
   obtain ⟨k, hk, rfl, H0, hb⟩ := hrel; by_cases hlt : k < ks.length
   ·obtain ⟨f, hf⟩ : ∃ f, ks[k]? = some f := ⟨ks[k], List.getElem?_eq_getElem hlt⟩
    have g0 := below_cell hb (Hc.out k f hf); have Hf := Lib.hid hf; clear hf; go_wp2_with fail
    refine (Hp.out _ f (List.mem_of_getElem? Hf.out) hb).mono ?_; rintro e w1 ⟨rfl, hb1⟩; have hb2 := below_step hb hb1; clear g0; cases hpf : p f
    ·have H1 : Hid (∀ j g, j < k + 1 → ks[j]? = some g → p g = false) := Lib.hid fun j g hj hg' => by
      rcases Nat.lt_succ_iff_lt_or_eq.1 hj with h | rfl
      ·exact H0.out j g h hg'
      ·rw [Hf.out] at hg'; cases hg'; exact hpf
     clear hpf; go_wp2_with fail
     go_roundw
     case rel => exact ⟨k + 1, by omega, by go_num, H1, hb2⟩
     case measure => simp [intOf]; omega
    ·have Hq := Lib.hid hpf
     clear hpf; go_wp2_with fail
     go_ret
     exact ⟨.inr ⟨k, f, rfl, Hf.out, Hq.out, H0.out⟩, hb2⟩
   ·obtain rfl : k = ks.length := by omega
    go_wp2_with fail
    go_ret
    refine ⟨.inl ⟨rfl, fun f hf => ?_⟩, hb⟩
    obtain ⟨i, hi⟩ := List.getElem?_of_mem hf; exact H0.out i f (List.getElem?_eq_some_iff.1 hi).1 hi
set_option maxRecDepth 100000 in
set_option maxHeartbeats 1000000 in
theorem cloneN_calls (lo : Nat) (v : Value) (fs : List Nat) (w : World) (hv : Nums w lo v fs) :
  Calls Tryz.prog 131 #[v] w fun e w' => ∃ v', w'.ownsRow w.heap.size 3 1 v' fs.length (fs.map fun (j : Nat) => .int .i64 (j : Int)) ∧ e = .returned v' ∧ Below w.heap.size w w' := by
 obtain ⟨i0, hi, hz0, hz1, hz2⟩ := info_parts info_int
 have hnil := fun a n c => Lib.run_eql_slice_nil (P := Tryz.prog) w 22 3 a n c 0 0 Tryz.underlying22
 rcases hv.shape with ⟨rfl, h0⟩ | ⟨g, off, cap, cur, fr, rfl, hlc, hg, hc⟩
 ·obtain rfl : fs = [] := by simpa using h0
  clear hv hi hz0 hz1 hz2; go_enter Tryz.func131, Tryz.ntmps131; go_wp2_with fail
  go_ret
  exact ⟨_, World.ownsRow_nil _ _ _ _, rfl, Below.refl _ _⟩
 ·clear hlc
  have hn := hv.small; simp only [List.length_map] at hn
  have hgl := lt_of_heap hg
  have hflat : ∀ j u, (fs.map (fun (j : Nat) => Value.int .i64 (j : Int)))[j]? = some u → cur[off + j]? = some u := by
   intro j u hu; rw [List.getElem?_map] at hu
   obtain ⟨f, hf, rfl⟩ := Option.map_eq_some_iff.1 hu; have h3 := hc j 0 (.int .i64 (f : Int)) (by simp [hf, inRow])
   simpa using h3
  have hown : (w.alloc (.cells #[] 3)).ownsRow w.heap.size 3 1 (.slice (some ⟨w.heap.size, 0, none⟩) 0 0) 0 [] := World.ownsRow_made w #[] 0 (Nat.le_refl _) (by unfold maxLen; omega) rfl
  have hnews : ∀ j u, (fs.map (fun (j : Nat) => Value.int .i64 (j : Int)))[j]? = some u → (w.alloc (.cells #[] 3)).cell? ((⟨g, off, none⟩ : Addr).add j) = some u := by
   intro j u hu; have hadd : (⟨g, off, none⟩ : Addr).add j = ⟨g, off + j, none⟩ := by unfold Addr.add; split <;> simp_all
   rw [hadd, World.cell?_alloc_past _ _ _ hgl, cell_of_row w g _ cur _ fr hg]; exact hflat j u hu
  have Hn := Lib.hid hnews; have Hl := Lib.hid (show (fs.map (fun (j : Nat) => Value.int .i64 (j : Int))).length = fs.length * 1 by simp)
  clear hnews hc hflat hg hv; simp only [List.length_map]; go_enter Tryz.func131, Tryz.ntmps131; go_wp2_with (at_builtin; refine wpList_append_own _ rfl _ _ 22 rfl w.heap.size 3 i0 (.int .i64 0) 1 8 Tryz.underlying22 hi hz0 hz1 hz2 rfl (by decide) _ 0 [] rfl hown ⟨g, off, none⟩ fs.length cap ((fs.map (fun (j : Nat) => Value.int .i64 (j : Int)))) rfl Hl.out Hn.out ?c2 ?c3 ?c4 ?c5 ?_)
  case c2 =>
   intro u hu; obtain ⟨f, _, rfl⟩ := List.mem_map.1 hu; rfl
  case c3 => unfold maxLen; omega
  case c4 => omega
  case c5 => simp
  intro v' w4 hown4 hgrow _; go_wp2_with fail
  go_ret
  refine ⟨_, ?_, rfl, (below_alloc w _).grown hgrow (by simp) fun r hr => (own_block hown r hr).1⟩
  simpa using hown4

theorem zero_int (w : World) : (zeroValue 3).run Tryz.prog w = .ok (.int .i64 0) w := by kernel_rfl
/-- What striking some out leaves. -/
def LeftN (p : Nat → Bool) (lo : Nat) (ks : List Nat) (w : World) (row : Option Nat) (e : Ending) (w' : World) : Prop := ∃ v', e = .returned v' ∧ Nums w' lo v' (ks.filter fun k => !p k) ∧ w.grownBy w' row
set_option maxRecDepth 100000 in
set_option maxHeartbeats 4000000 in
theorem deleteN_calls (G : Nat) (caps : Array Value) (p : Nat → Bool) (lo g off cap : Nat) (ks : List Nat) (w : World) (hv : RowsAt w 3 g off 1 (ks.map inRow)) (hn : ks.length ≤ 1000000) (hcap : ks.length ≤ cap) (hl : lo ≤ g) (eg : ∀ args w, (callFunc G args).run Tryz.prog w = .ok (.enter G args) w)
  (hp : ∀ (W : World) (k : Nat), k ∈ ks → w.grownBy W (some g) → Calls Tryz.prog G (#[.int .i64 (k : Int)] ++ caps) W (BoolIs (p k) W)) :
  Calls Tryz.prog 130 #[.slice (some ⟨g, off, none⟩) ks.length cap, .func (.func G) #[] caps] w (LeftN p lo ks w (some g)) := by
 have HF := Lib.hid (show ∀ (ks' : List Nat) (w' : World) (c : Nat), RowsAt w' 3 g off 1 (ks'.map inRow) → ks'.length ≤ 1000000 → ks'.length ≤ c → Nums w' lo (.slice (some ⟨g, off, none⟩) ks'.length c) ks' from fun ks' w' c h hn hc => by
  have := h.rows (cap := c) (by simpa using hn) hl (by simpa using hc)
  simpa [Nums] using this)
 have Hp := Lib.hid hp
 have C := Lib.hid (indexNF_calls G caps p lo _ ks w (HF.out ks w cap hv hn hcap) eg fun W f hm hb => Hp.out W f hm (gb_below hb _))
 clear hp
 obtain ⟨n, hnn⟩ : ∃ n, ks.length = n := ⟨_, rfl⟩
 have HN := Lib.hid hnn
 rw [hnn] at hn hcap C ⊢
 clear hnn
 go_enter Tryz.func130, Tryz.ntmps130
 go_wp2_with fail
 refine C.out.mono ?_
 rintro e w1 ⟨he, hb1⟩
 rcases he with ⟨rfl, hnone⟩ | ⟨i, f0, rfl, hf0, hpf0, h0⟩
 ·have Hall := Lib.hid (show (ks.filter fun f => !p f) = ks from List.filter_eq_self.2 fun f hf => by rw [hnone f hf]; rfl)
  clear hnone C; go_wp2_with fail
  go_ret
  refine ⟨_, rfl, ?_, gb_below hb1 _⟩; rw [Hall.out, ← HN.out]; exact HF.out ks w1 cap (hv.below hb1) (by have := HN.out; omega) (by have := HN.out; omega)
 ·have hi : i < n := by rw [← HN.out]; exact (List.getElem?_eq_some_iff.1 hf0).1
  have Hstart := Lib.hid (filter_take_firstS hf0 hpf0 h0); have hne : ((i : Int) == -1) = false := by rw [beq_eq_false_iff_ne]; omega
  have hv1 := hv.below hb1; clear hf0 hpf0 h0 C hv; go_wp2_with fail
  go_loopw [5, 6] (fun a b wr => ∃ (i j : Nat) (fs' : List Nat), i < j ∧ j ≤ n ∧ a = .int .i64 i ∧ b = .int .i64 j ∧ fs'.length = n ∧ RowsAt wr 3 g off 1 (fs'.map inRow) ∧ w.grownBy wr (some g) ∧ Hid (fs'.take i = (ks.take j).filter (fun f => !p f)) ∧ Hid (∀ t, j ≤ t → fs'[t]? = ks[t]?)) (fun _ b _ => n - (intOf b).toNat)
  case atStart => exact ⟨i, i + 1, ks, by omega, by omega, rfl, by go_num, HN.out, hv1, gb_below hb1 _, Lib.hid Hstart.out.symm, Lib.hid fun _ _ => rfl⟩
  case round =>
   clear hv1; obtain ⟨i, j, fs', hij, hj, rfl, rfl, hlen, hr, hgw, HT, HE⟩ := hrel; by_cases hlt : j < n
   ·obtain ⟨f, hf⟩ : ∃ f, fs'[j]? = some f := ⟨_, List.getElem?_eq_getElem (show j < fs'.length by omega)⟩
    obtain ⟨fi, hfi⟩ : ∃ f, fs'[i]? = some f := ⟨_, List.getElem?_eq_getElem (show i < fs'.length by omega)⟩
    have hf' : ks[j]? = some f := by rw [← HE.out j (Nat.le_refl _)]; exact hf
    have Hsn := Lib.hid (filter_snocS (fun f => !p f) hf')
    have Hm := Lib.hid (List.mem_of_getElem? hf'); have Hfi := Lib.hid hfi; have a0 := n_cell hr hf; clear hf hf' hfi; go_wp2_with fail
    refine (Hp.out _ f Hm.out hgw).mono ?_; rintro e w2 ⟨rfl, hb2⟩; have hr2 := hr.below hb2; have hgW2 := gb_trans hgw (gb_below hb2 (some g)); cases hpf : p f
    ·have p0 := n_cell hr2 Hfi.out
     have f0 := fun o => hr2.free o
     have HT' : Hid ((fs'.set i f).take (i + 1) = (ks.take (j + 1)).filter (fun f => !p f)) := Lib.hid (by
      have hil : i < fs'.length := by omega
      rw [Hsn.out, hpf, ← HT.out, List.take_succ_eq_append_getElem (by simpa using hil)]
      simp [List.take_set_of_le])
     have HE' : Hid (∀ t, j + 1 ≤ t → (fs'.set i f)[t]? = ks[t]?) := Lib.hid fun t ht => by
      rw [List.getElem?_set_ne (by omega)]; exact HE.out t (by omega)
     have hset := Lib.hid (n_set hr2 Hfi.out f); have hgs := Lib.hid (gb_trans hgW2 (gb_setCell w2 g (off + i) (.int .i64 (f : Int)))); have hw4 : (i : Int) < (n : Int) := by omega
     clear hpf a0 hb2 hgW2 hgw hr hr2; go_wp2_with fail
     go_roundw
     case rel => exact ⟨i + 1, j + 1, fs'.set i f, by omega, by omega, by go_num, by go_num, by simpa using hlen, hset.out, hgs.out, HT', HE'⟩
     case measure => simp [intOf]; omega
    ·have HT' : Hid (fs'.take i = (ks.take (j + 1)).filter (fun f => !p f)) := Lib.hid (by rw [Hsn.out, hpf, ← HT.out]; simp)
     have HE' : Hid (∀ t, j + 1 ≤ t → fs'[t]? = ks[t]?) := Lib.hid fun t ht => HE.out t (by omega)
     clear hpf; go_wp2_with fail
     go_roundw
     case rel => exact ⟨i, j + 1, fs', by omega, by omega, rfl, by go_num, hlen, hr2, hgW2, HT', HE'⟩
     case measure => simp [intOf]; omega
   ·obtain rfl : j = n := by omega
    have Hfin := Lib.hid (show fs'.take i = ks.filter (fun f => !p f) by rw [HT.out, ← HN.out, List.take_length])
    obtain ⟨w4, hrun, hr4, hg4⟩ := run_clear_rows (P := Tryz.prog) (t := 22) (ty := 0) (sz := 1) (i := i) (n := j - i) (cap := cap - i) Tryz.underlying22 zero_int rfl (by simp [Value.cells, Value.oneCell']) hr (by simp; omega) (by decide)
    have Hr4 := Lib.hid hr4; have Hg4 := Lib.hid hg4; simp only [Nat.mul_one] at hrun
    clear hr4 hg4 hr; go_wp2_with fail
    go_ret
    refine ⟨_, rfl, ?_, gb_trans hgw Hg4.out⟩; have h5 := Hr4.out; rw [← List.map_take] at h5
    have h6 := HF.out (fs'.take i) _ cap h5 (by simp; omega) (by simp; omega)
    have e : (fs'.take i).length = i := by simp; omega
    rw [e, Hfin.out] at h6
    exact h6

set_option maxRecDepth 100000 in
theorem indexN0_calls (G : Nat) (caps : Array Value) (ad : Option Addr) (cp : Nat) (w : World) :
  Calls Tryz.prog 144 #[.slice ad 0 cp, .func (.func G) #[] caps] w fun e w' => e = .returned (.int .i64 (-1)) ∧ Below w.heap.size w w' := by
 go_enter Tryz.func144, Tryz.ntmps144
 go_wp2_with fail
 refine wp_loop_rounds 1 ?_
 rw [rounds_succ]
 go_wp2_with fail
 go_ret
 exact ⟨rfl, Below.refl _ _⟩
set_option maxRecDepth 100000 in
theorem deleteN0_calls (G : Nat) (caps : Array Value) (ad : Option Addr) (cp : Nat) (w : World) :
  Calls Tryz.prog 130 #[.slice ad 0 cp, .func (.func G) #[] caps] w fun e w' => e = .returned (.slice ad 0 cp) ∧ Below w.heap.size w w' := by
 have C := Lib.hid (indexN0_calls G caps ad cp w)
 go_enter Tryz.func130, Tryz.ntmps130
 go_wp2_with fail
 refine C.out.mono ?_
 rintro e w1 ⟨rfl, hb1⟩
 go_wp2_with fail
 go_ret
 exact ⟨rfl, hb1⟩
theorem without1_calls (X k one : Nat) (w : World) (hX : w.cell? ⟨X, 0, none⟩ = some (.int .i64 (one : Int))) :
  Calls Tryz.prog 132 #[.int .i64 (k : Int), .pointer (some ⟨X, 0, none⟩)] w (BoolIs (k == one) w) := by
 go_enter Tryz.func132, Tryz.ntmps132
 go_wp2_with fail
 go_ret
 refine ⟨ret_bool ?_, Below.refl _ _⟩
 rw [Bool.eq_iff_iff]
 simp
 omega
def outL (one : Nat) (ks : List Nat) : List Nat := ks.filter fun k => !(k == one)
set_option maxHeartbeats 1000000 in
theorem without_calls (lo one : Nat) (v : Value) (ks : List Nat) (w : World) (hv : Nums w lo v ks) :
  Calls Tryz.prog 102 #[v, .int .i64 (one : Int)] w fun e w' => ∃ v', e = .returned v' ∧ Nums w' w.heap.size v' (outL one ks) ∧ Below w.heap.size w w' := by
 have hn : ks.length ≤ 1000000 := by rcases nums_at hv with ⟨_, rfl⟩ | ⟨_, _, _, _, _, _, h, _⟩ <;> simp_all
 obtain ⟨V, hV⟩ : ∃ V, V = w.alloc (.cells #[.int .i64 (one : Int)] 3) := ⟨_, rfl⟩
 have hbV : Below w.heap.size w V := by rw [hV]; exact below_alloc w _
 have hx : V.heap[w.heap.size]? = some (.cells #[.int .i64 (one : Int)] 3 (0, 0)) := by rw [hV]; exact heap_alloc_new w _
 have C := Lib.hid (cloneN_calls lo v ks V (hv.below hbV))
 obtain ⟨a, c, rfl⟩ := nums_shape hv
 obtain ⟨X, hX⟩ : ∃ X, w.heap.size = X := ⟨_, rfl⟩
 have HX := Lib.hid hX
 rw [hX] at hx
 have hs := hbV.size
 have hVX : V.heap.size = X + 1 := by rw [hV, ← hX]; simp
 have HVX := Lib.hid hVX
 have Hx := Lib.hid hx
 have HbV := Lib.hid hbV
 clear hv hx hbV hs hVX
 go_enter Tryz.func102, Tryz.ntmps102
 go_upto_region 1 with fail
 rw [← hV]
 try rw [hX]
 clear hV hX
 go_wp2_with fail
 refine C.out.mono ?_
 rintro e w1 ⟨v1, hown, rfl, hb1⟩
 have hx1 := cells_later Hx.out hb1
 have x1 := cell_at hx1 0 rfl
 by_cases hk : ks = []
 ·subst hk
  obtain ⟨ad, cp, rfl⟩ := owns_shape hown; have D := Lib.hid (deleteN0_calls 132 #[.pointer (some ⟨X, 0, none⟩)] ad cp w1); have hN := Lib.hid (show Nums w1 V.heap.size (.slice ad 0 cp) [] from Rows.of_owns (rows := ([] : List (List Value))) (by simpa using hown) (by simp) (by simp))
  have hb02 := Lib.hid (below_step HbV.out hb1); simp only [List.length_nil]; clear hown x1 hx1 hb1; go_wp2_with fail
  refine D.out.mono ?_; rintro e w2 ⟨rfl, hb2⟩; go_wp2_with fail
  go_ret
  exact ⟨_, rfl, (hN.out.below hb2).mono (by have := HVX.out; have := HX.out; omega), below_step hb02.out hb2⟩
 ·rcases hown.2 with ⟨_, h0⟩ | ⟨g, cap, cur, rfl, hgb, hgc, hle, _⟩
  ·exact absurd (List.eq_nil_of_length_eq_zero h0) hk
  have hfl : (ks.map inRow).flatten = ks.map fun (j : Nat) => Value.int .i64 (j : Int) := flatten_single (fun j : Nat => Value.int .i64 (j : Int)) _
  obtain ⟨hat, hcap⟩ := RowsAt.of_owns (sz := 1) (rows := ks.map inRow) (by rw [hfl]; simpa using hown) (by simp [inRow])
  have Hg := Lib.hid (show X < g by have := HVX.out; omega)
  have D := Lib.hid (deleteN_calls 132 #[.pointer (some ⟨X, 0, none⟩)] (fun k => k == one) X g 0 cap ks w1 hat hn (by omega) (by have := Hg.out; omega) (by intro args w; go_simp) (fun W k _ hg => without1_calls X k one W (gb_cell hg x1 (by have := Hg.out; omega))))
  have hb02 := Lib.hid (below_step HbV.out hb1); clear hat hcap hfl hgc hle hown x1 hx1 hb1 hgb; go_wp2_with fail
  refine D.out.mono ?_; rintro e w2 ⟨v2, rfl, hN, hgw⟩; go_wp2_with fail
  go_ret
  exact ⟨_, rfl, hN.mono (by have := HX.out; omega), hb02.out.grown hgw hb02.out.size (fun r hr => by cases hr; have := Hg.out; have := HX.out; omega)⟩
end Go.Proofs.YtfcaokpadodijaaGreat
namespace Go.Proofs.YtfcaokpadodijaaGreat
open Go.RowKit

def cmpN : List Nat → List Nat → Int
 | [], [] => 0
 | [], _ :: _ => -1
 | _ :: _, [] => 1
 | a :: x, b :: y => if Lib.compareInt (a : Int) (b : Int) = 0 then cmpN x y else Lib.compareInt (a : Int) (b : Int)
theorem cmpN_end (ys : List Nat) : cmpN [] ys = if 0 < ys.length then -1 else 0 := by cases ys <;> simp [cmpN]
set_option maxRecDepth 100000 in
set_option maxHeartbeats 2000000 in
theorem compareN_calls (lo lo' : Nat) (v u : Value) (xs ys : List Nat) (w : World) (hx : Nums w lo v xs) (hy : Nums w lo' u ys) :
  Calls Tryz.prog 84 #[v, u] w fun e w' => e = .returned (.int .i64 (cmpN xs ys)) ∧ w' = w := by
 have HX := Lib.hid hx
 have HY := Lib.hid hy
 have hnx : xs.length ≤ 1000000 := by rcases nums_at hx with ⟨_, rfl⟩ | ⟨_, _, _, _, _, _, h, _⟩ <;> simp_all
 have hny : ys.length ≤ 1000000 := by rcases nums_at hy with ⟨_, rfl⟩ | ⟨_, _, _, _, _, _, h, _⟩ <;> simp_all
 obtain ⟨a, c, rfl⟩ := nums_shape hx
 obtain ⟨a', c', rfl⟩ := nums_shape hy
 obtain ⟨r, hr⟩ : ∃ r, cmpN xs ys = r := ⟨_, rfl⟩
 rw [hr]
 have Hr := Lib.hid hr
 clear hx hy hr
 go_enter Tryz.func84, Tryz.ntmps84
 go_wp2_with fail
 go_loop [11] (fun i => ∃ k : Nat, k ≤ xs.length ∧ k ≤ ys.length ∧ i = .int .i64 k ∧ Hid (cmpN (xs.drop k) (ys.drop k) = r)) (fun i => xs.length - (intOf i).toNat)
 case atStart => exact ⟨0, Nat.zero_le _, Nat.zero_le _, rfl, Lib.hid (by simpa using Hr.out)⟩
 case round =>
  obtain ⟨k, hk, hky, rfl, H⟩ := hrel; by_cases hlt : k < xs.length
  ·obtain ⟨x, hx⟩ : ∃ x, xs[k]? = some x := ⟨_, List.getElem?_eq_getElem hlt⟩
   have ex : xs.drop k = x :: xs.drop (k + 1) := by rw [List.drop_eq_getElem_cons hlt, (List.getElem?_eq_some_iff.1 hx).2]
   rcases nums_at HX.out with ⟨_, h⟩ | ⟨g, off, cap, e, _, _, _, hcell⟩
   ·rw [h] at hlt; simp at hlt
   simp only [Value.slice.injEq] at e
   obtain ⟨rfl, -, rfl⟩ := e; have x0 := hcell k x hx; by_cases hly : k < ys.length
   ·obtain ⟨y, hy⟩ : ∃ y, ys[k]? = some y := ⟨_, List.getElem?_eq_getElem hly⟩
    have ey : ys.drop k = y :: ys.drop (k + 1) := by rw [List.drop_eq_getElem_cons hly, (List.getElem?_eq_some_iff.1 hy).2]
    rcases nums_at HY.out with ⟨_, h⟩ | ⟨g', off', cap', e, _, _, _, hcell'⟩
    ·rw [h] at hly; simp at hly
    simp only [Value.slice.injEq] at e
    obtain ⟨rfl, -, rfl⟩ := e; have y0 := hcell' k y hy; have Hs := Lib.hid (show (if Lib.compareInt (x : Int) (y : Int) = 0 then cmpN (xs.drop (k + 1)) (ys.drop (k + 1)) else Lib.compareInt (x : Int) (y : Int)) = r by have := H.out; rw [ex, ey] at this; exact this)
    have n1 : decide ((ys.length : Int) ≤ (k : Int)) = false := decide_eq_false (by omega)
    have C := Lib.hid (Tryz.cmp_Compare_int (x : Int) (y : Int) w); generalize Lib.compareInt (x : Int) (y : Int) = q at Hs C
    clear hcell hcell' hx hy ex ey; go_wp2_with fail
    refine C.out.mono ?_; rintro e w' ⟨rfl, rfl⟩; by_cases hq : q = 0
    ·have Hn := Lib.hid (show cmpN (xs.drop (k + 1)) (ys.drop (k + 1)) = r by have := Hs.out; rwa [if_pos hq] at this)
     subst hq; go_wp2_with fail
     go_round
     case rel => exact ⟨k + 1, by omega, by omega, by go_num, Hn⟩
     case measure => simp [intOf]; omega
    ·have Hn := Lib.hid (show q = r by have := Hs.out; rwa [if_neg hq] at this)
     have q1 : (q != 0) = true := by simp [hq]
     clear hq; go_wp2_with fail
     go_ret
     exact ⟨ret_int Hn.out, rfl⟩
   ·obtain rfl : k = ys.length := by omega
    have Hn := Lib.hid (show (1 : Int) = r by have := H.out; rw [ex, List.drop_length] at this; exact this)
    clear hcell hx ex hly; go_wp2_with fail
    go_ret
    exact ⟨ret_int Hn.out, rfl⟩
  ·obtain rfl : k = xs.length := by omega
   have Hn := Lib.hid (show (if xs.length < ys.length then (-1 : Int) else 0) = r by
    have := H.out
    rw [List.drop_length, cmpN_end, List.length_drop] at this
    rw [← this]; by_cases h : xs.length < ys.length
    ·rw [if_pos h, if_pos (by omega)]
    ·rw [if_neg h, if_neg (by omega)])
   by_cases h : xs.length < ys.length
   ·have Hm := Lib.hid (show (-1 : Int) = r by have := Hn.out; rwa [if_pos h] at this)
    go_wp2_with fail
    go_ret
    exact ⟨ret_int Hm.out, rfl⟩
   ·have Hm := Lib.hid (show (0 : Int) = r by have := Hn.out; rwa [if_neg h] at this)
    go_wp2_with fail
    go_ret
    exact ⟨ret_int Hm.out, rfl⟩
end Go.Proofs.YtfcaokpadodijaaGreat
