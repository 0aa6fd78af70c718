/- slices.MinFunc at assets -/
import Derived.Test.YtddnnjblpgfjeaaGreatDoorMgao
import Derived.Test.YtddnnjblpgfjeaaGreatDoorMgae
import Derived.Test.YtddnnjblpgfjeaaGreatDoorMgac
/- Rows of api.Asset: memory, copies, searches, what is struck out, equality. -/
namespace Go.Proofs.YtddnnjblpgfjeaaGreatDoor
open Go.RowKit

def asRow (x : AsD) : List Value := [.string x.player, .string x.pos, .int .i64 x.value]
/-- A slice of such rows. -/
def Ass (w : World) (lo : Nat) (v : Value) (xs : List AsD) : Prop := Rows w 78 lo 3 v (xs.map asRow)
theorem Ass.below {w w' : World} {lo : Nat} {v : Value} {xs : List AsD} (h : Ass w lo v xs) (hb : Below w.heap.size w w') : Ass w' lo v xs := Rows.below h hb
theorem Ass.other {w w' : World} {lo B : Nat} {v : Value} {xs : List AsD} (h : Ass w lo v xs) (hg : w.grownBy w' (some B)) (hB : B < lo) : Ass w' lo v xs := Rows.other h hg hB
theorem Ass.mono {w : World} {lo lo' : Nat} {v : Value} {xs : List AsD} (h : Ass w lo v xs) (hl : lo' ≤ lo) : Ass w lo' v xs := Rows.mono h hl
theorem as_at {w : World} {lo : Nat} {v : Value} {xs : List AsD} (h : Ass w lo v xs) :
  (v = .slice none 0 0 ∧ xs = []) ∨ ∃ g off cap, v = .slice (some ⟨g, off, none⟩) xs.length cap ∧ lo ≤ g ∧ g < w.heap.size ∧ xs.length ≤ 1000000 ∧
   ∀ (i : Nat) (x : AsD), xs[i]? = some x → w.cell? ⟨g, off + i * 3, none⟩ = some (.string x.player) ∧ w.cell? ⟨g, off + i * 3 + 1, none⟩ = some (.string x.pos) ∧ w.cell? ⟨g, off + i * 3 + 2, none⟩ = some (.int .i64 x.value) := by
 rcases rows_at h with ⟨e1, e2⟩ | ⟨g, off, cap, e1, e2, e3, hc⟩
 ·exact .inl ⟨e1, by simpa using e2⟩
 ·refine .inr ⟨g, off, cap, by simpa using e1, e2, e3, by simpa using h.small, fun i x hx => ?_⟩
  have hr : (xs.map asRow)[i]?.getD [] = asRow x := by simp [hx]
  exact ⟨hc i 0 _ (by rw [hr]; rfl), hc i 1 _ (by rw [hr]; rfl), hc i 2 _ (by rw [hr]; rfl)⟩
theorem as_shape {w : World} {lo : Nat} {v : Value} {xs : List AsD} (h : Ass w lo v xs) : ∃ a c, v = .slice a xs.length c := by
 rcases as_at h with ⟨rfl, rfl⟩ | ⟨g, off, cap, rfl, _⟩
 ·exact ⟨none, 0, rfl⟩
 ·exact ⟨_, _, rfl⟩
theorem as_each (xs : List AsD) : ∀ r ∈ xs.map asRow, r.length = 3 := by
 intro r hr
 obtain ⟨x, _, rfl⟩ := List.mem_map.1 hr
 rfl
/-- Rows that the call made itself. -/
def OwnAs (w : World) (base : Nat) (v : Value) (xs : List AsD) : Prop := w.ownsRow base 78 3 v xs.length (xs.map asRow).flatten
theorem as_flat (xs : List AsD) : (xs.map asRow).flatten.length = xs.length * 3 := by
 induction xs with
 | nil => rfl
 | cons f fs ih => simp only [List.map_cons, List.flatten_cons, List.length_append, ih, List.length_cons, asRow, List.length_nil]; omega
theorem info_As : (Tryz.prog.info? 78).map (fun i => (i.zero, i.size, i.bytes)) = some (some (.agg #[.string ⟨#[]⟩, .string ⟨#[]⟩, .int .i64 0]), 3, 40) := by kernel_rfl
theorem zero_As (w : World) : (zeroValue 78).run Tryz.prog w = .ok (.agg #[.string ⟨#[]⟩, .string ⟨#[]⟩, .int .i64 0]) w := by kernel_rfl
theorem as_cells {w : World} {g off i : Nat} {xs : List AsD} {x : AsD} (h : RowsAt w 78 g off 3 (xs.map asRow)) (hx : xs[i]? = some x) : w.cell? ⟨g, off + i * 3, none⟩ = some (.string x.player) ∧ w.cell? ⟨g, off + i * 3 + 1, none⟩ = some (.string x.pos) ∧ w.cell? ⟨g, off + i * 3 + 2, none⟩ = some (.int .i64 x.value) := by
 have hr : (xs.map asRow)[i]? = some (asRow x) := by simp [hx]
 exact ⟨h.cell hr (j := 0) rfl, h.cell hr (j := 1) rfl, h.cell hr (j := 2) rfl⟩
theorem as_set {w : World} {g off i : Nat} {xs : List AsD} {x0 : AsD} (h : RowsAt w 78 g off 3 (xs.map asRow)) (hi : xs[i]? = some x0) (x : AsD) :
  RowsAt (((w.setCell ⟨g, off + i * 3, none⟩ (.string x.player)).setCell ⟨g, off + i * 3 + 1, none⟩ (.string x.pos)).setCell ⟨g, off + i * 3 + 2, none⟩ (.int .i64 x.value)) 78 g off 3 ((xs.set i x).map asRow) := by
 have hlt : i < (xs.map asRow).length := by simpa using (List.getElem?_eq_some_iff.1 hi).1
 have r0 := h.set (show (xs.map asRow)[i]? = some (asRow x0) by simp [hi]) (show 0 < 3 by omega) (.string x.player)
 have r1 := r0.set (List.getElem?_set_self hlt) (show 1 < 3 by omega) (.string x.pos)
 rw [List.set_set] at r1
 have r2 := r1.set (List.getElem?_set_self hlt) (show 2 < 3 by omega) (.int .i64 x.value)
 rw [List.set_set] at r2
 rw [List.map_set]; exact r2
theorem gb_setAs (w : World) (g off : Nat) (a0 a1 a2 : Value) : w.grownBy (((w.setCell ⟨g, off, none⟩ a0).setCell ⟨g, off + 1, none⟩ a1).setCell ⟨g, off + 2, none⟩ a2) (some g) :=
 gb_trans (gb_setCell _ _ _ _) (gb_trans (gb_setCell _ _ _ _) (gb_setCell _ _ _ _))
set_option maxRecDepth 100000 in
set_option maxHeartbeats 4000000 in
theorem cloneAs_calls (lo : Nat) (v : Value) (xs : List AsD) (w : World) (hv : Ass w lo v xs) :
  Calls Tryz.prog 108 #[v] w fun e w' => ∃ v', OwnAs w' w.heap.size v' xs ∧ e = .returned v' ∧ Below w.heap.size w w' := by
 obtain ⟨i0, hi, hz0, hz1, hz2⟩ := info_parts info_As
 have hnil := fun a n c => Lib.run_eql_slice_nil (P := Tryz.prog) w 52 78 a n c 0 0 Tryz.underlying52
 rcases hv.shape with ⟨rfl, h0⟩ | ⟨g, off, cap, cur, fr, rfl, hlc, hg, hc⟩
 ·obtain rfl : xs = [] := by simpa using h0
  clear hv hi hz0 hz1 hz2; go_enter Tryz.func108, Tryz.ntmps108; go_wp2_with fail
  go_ret
  exact ⟨_, World.ownsRow_nil _ _ _ _, rfl, Below.refl _ _⟩
 ·clear hlc
  have hn := hv.small; simp only [List.length_map] at hn
  have hgl := lt_of_heap hg; have hfl := as_flat xs
  have hflat : ∀ j u, (xs.map asRow).flatten[j]? = some u → cur[off + j]? = some u := by
   intro j u hu; have hj : j < xs.length * 3 := by rw [← hfl]; exact (List.getElem?_eq_some_iff.1 hu).1
   have hq : j / 3 < xs.length := by omega
   obtain ⟨f, hf⟩ : ∃ f, xs[j / 3]? = some f := ⟨_, List.getElem?_eq_getElem hq⟩
   have h1 : ((xs.map asRow)[j / 3]?.getD [])[j % 3]? = (asRow f)[j % 3]? := by simp [hf]
   obtain ⟨u', hu'⟩ : ∃ u', (asRow f)[j % 3]? = some u' := ⟨_, List.getElem?_eq_getElem (show j % 3 < (asRow f).length by simp [asRow]; omega)⟩
   have h2 := flat_at (sz := 3) (xs.map asRow) (as_each xs) (j / 3) (j % 3) u' (by rw [h1]; exact hu')
   rw [show j / 3 * 3 + j % 3 = j by omega, hu] at h2
   cases h2
   have h3 := hc (j / 3) (j % 3) u (by rw [h1]; exact hu')
   rwa [show off + j / 3 * 3 + j % 3 = off + j by omega] at h3
  have hown : OwnAs (w.alloc (.cells #[] 78)) w.heap.size (.slice (some ⟨w.heap.size, 0, none⟩) 0 0) [] := World.ownsRow_made w #[] 0 (Nat.le_refl _) (by unfold maxLen; omega) rfl
  have hnews : ∀ j u, (xs.map asRow).flatten[j]? = some u → (w.alloc (.cells #[] 78)).cell? ((⟨g, off, none⟩ : Addr).add j) = some u := by
   intro j u hu; have hadd : (⟨g, off, none⟩ : Addr).add j = ⟨g, off + j, none⟩ := by unfold Addr.add; split <;> simp_all
   rw [hadd, World.cell?_alloc_past _ _ _ hgl, cell_of_row w g _ cur _ fr hg]; exact hflat j u hu
  have Hn := Lib.hid hnews; have Hl := Lib.hid hfl; clear hnews hc hflat hfl hg hv; simp only [List.length_map]; go_enter Tryz.func108, Tryz.ntmps108; go_wp2_with (at_builtin; refine wpList_append_own _ rfl _ _ 52 rfl w.heap.size 78 i0 (.agg #[.string ⟨#[]⟩, .string ⟨#[]⟩, .int .i64 0]) 3 40 Tryz.underlying52 hi hz0 hz1 hz2 rfl (by decide) _ 0 _ rfl hown ⟨g, off, none⟩ xs.length cap _ rfl Hl.out ?c1 ?c2 ?c3 ?c4 ?c5 ?_)
  case c1 => exact Hn.out
  case c2 =>
   intro u hu; obtain ⟨r, hr, hur⟩ := List.mem_flatten.1 hu; obtain ⟨f, _, rfl⟩ := List.mem_map.1 hr; simp only [asRow, List.mem_cons, List.not_mem_nil, or_false] at hur
   rcases hur with rfl | rfl | rfl <;> rfl
  case c3 => unfold maxLen; omega
  case c4 => omega
  case c5 => simp
  intro v' w4 hown4 hgrow _; go_wp2_with fail
  go_ret
  refine ⟨_, ?_, rfl, (below_alloc w _).grown hgrow (by simp) fun r hr => (own_block hown r hr).1⟩
  unfold OwnAs; simpa using hown4
/-- What a look for the first one gives. -/
def IdxFirstAs (p : AsD → Bool) (xs : List AsD) (w : World) (e : Ending) (w' : World) : Prop :=
 ((e = .returned (.int .i64 (-1)) ∧ ∀ x ∈ xs, p x = false) ∨ ∃ i x, e = .returned (.int .i64 ((i : Nat) : Int)) ∧ xs[i]? = some x ∧ p x = true ∧ ∀ j y, j < i → xs[j]? = some y → p y = false) ∧ Below w.heap.size w w'
set_option maxRecDepth 100000 in
set_option maxHeartbeats 4000000 in
theorem indexAs_calls (G : Nat) (caps : Array Value) (p : AsD → Bool) (lo : Nat) (v : Value) (xs : List AsD) (w : World) (hv : Ass w lo v xs) (eg : ∀ args w, (callFunc G args).run Tryz.prog w = .ok (.enter G args) w)
  (hp : ∀ (W : World) (x : AsD), Below w.heap.size w W → Calls Tryz.prog G (#[.agg #[.string x.player, .string x.pos, .int .i64 x.value]] ++ caps) W (BoolIs (p x) W)) :
  Calls Tryz.prog 150 #[v, .func (.func G) #[] caps] w (IdxFirstAs p xs w) := by
 have Hp := Lib.hid hp
 clear hp
 rcases as_at hv with ⟨rfl, rfl⟩ | ⟨gg, off, cap, rfl, hlo, hg, hn, hcell⟩
 ·clear hv
  go_enter Tryz.func150, Tryz.ntmps150; go_wp2_with fail
  refine wp_loop_rounds 1 ?_; rw [rounds_succ]; go_wp2_with fail
  go_ret
  exact ⟨.inl ⟨rfl, by simp⟩, Below.refl _ _⟩
 ·have Hc := Lib.hid hcell
  clear hv hcell; go_enter Tryz.func150, Tryz.ntmps150; go_wp2_with fail
  go_loopw [8] (fun i wr => ∃ k : Nat, k ≤ xs.length ∧ i = .int .i64 k ∧ Hid (∀ j y, j < k → xs[j]? = some y → p y = false) ∧ Below w.heap.size w wr) (fun i _ => xs.length - (intOf i).toNat)
  case atStart => exact ⟨0, Nat.zero_le _, rfl, Lib.hid fun _ _ h => by omega, Below.refl _ _⟩
  case round =>
   obtain ⟨k, hk, rfl, H0, hb⟩ := hrel; by_cases hlt : k < xs.length
   ·obtain ⟨f, hf⟩ : ∃ f, xs[k]? = some f := ⟨xs[k], List.getElem?_eq_getElem hlt⟩
    obtain ⟨q0, q1, q2⟩ := Hc.out k f hf; have g0 := below_cell hb q0; have g1 := below_cell hb q1; have g2 := below_cell hb q2; have Hf := Lib.hid hf; clear hf q0 q1 q2; go_wp2_with fail
    refine (Hp.out _ f hb).mono ?_; rintro e w1 ⟨rfl, hb1⟩; have hb2 := below_step hb hb1; clear g0 g1 g2; cases hpf : p f
    ·have H1 : Hid (∀ j y, j < k + 1 → xs[j]? = some y → p y = false) := Lib.hid fun j y hj hy => by
      rcases Nat.lt_succ_iff_lt_or_eq.1 hj with h | rfl
      ·exact H0.out j y h hy
      ·rw [Hf.out] at hy; cases hy; exact hpf
     clear hpf; go_wp2_with fail
     go_roundw
     case rel => exact ⟨k + 1, by omega, by go_num, H1, hb2⟩
     case measure => simp [intOf]; omega
    ·have Hq := Lib.hid hpf
     clear hpf; go_wp2_with fail
     go_ret
     exact ⟨.inr ⟨k, f, rfl, Hf.out, Hq.out, H0.out⟩, hb2⟩
   ·obtain rfl : k = xs.length := by omega
    go_wp2_with fail
    go_ret
    refine ⟨.inl ⟨rfl, fun f hf => ?_⟩, hb⟩
    obtain ⟨i, hi⟩ := List.getElem?_of_mem hf; exact H0.out i f (List.getElem?_eq_some_iff.1 hi).1 hi
set_option maxRecDepth 100000 in
set_option maxHeartbeats 4000000 in
/-- Is one of a list so? -/
theorem containsAs_calls (G : Nat) (caps : Array Value) (p : AsD → Bool) (lo : Nat) (v : Value) (xs : List AsD) (w : World) (hv : Ass w lo v xs) (eg : ∀ args w, (callFunc G args).run Tryz.prog w = .ok (.enter G args) w)
  (hp : ∀ (W : World) (x : AsD), Below w.heap.size w W → Calls Tryz.prog G (#[.agg #[.string x.player, .string x.pos, .int .i64 x.value]] ++ caps) W (BoolIs (p x) W)) :
  Calls Tryz.prog 113 #[v, .func (.func G) #[] caps] w (BoolIs (xs.any p) w) := by
 have C := Lib.hid (indexAs_calls G caps p lo v xs w hv eg hp)
 obtain ⟨a, c, rfl⟩ := as_shape hv
 clear hv hp eg
 go_enter Tryz.func113, Tryz.ntmps113
 go_wp2_with fail
 refine C.out.mono ?_
 rintro e w1 ⟨⟨rfl, h0⟩ | ⟨i, f, rfl, hf, hpf, _⟩, hb⟩
 ·have hr : xs.any p = false := by rw [List.any_eq_false]; intro x hx; rw [h0 x hx]; simp
  clear C h0; go_wp2_with fail
  go_ret
  exact ⟨ret_bool (by rw [hr]), hb⟩
 ·have hr : xs.any p = true := by rw [List.any_eq_true]; exact ⟨f, List.mem_of_getElem? hf, hpf⟩
  clear C hf hpf; go_wp2_with fail
  go_ret
  exact ⟨ret_bool (by rw [hr]), hb⟩
/-- What striking some out leaves. -/
def LeftAs (p : AsD → Bool) (g off : Nat) (xs : List AsD) (w : World) (e : Ending) (w' : World) : Prop := ∃ c, e = .returned (.slice (some ⟨g, off, none⟩) (xs.filter fun x => !p x).length c) ∧ RowsAt w' 78 g off 3 ((xs.filter fun x => !p x).map asRow) ∧ (xs.filter fun x => !p x).length ≤ c ∧ w.grownBy w' (some g)
set_option maxRecDepth 100000 in
set_option maxHeartbeats 4000000 in
theorem deleteAs_calls (G : Nat) (caps : Array Value) (p : AsD → Bool) (lo g off cap : Nat) (fs : List AsD) (w : World) (hv : RowsAt w 78 g off 3 (fs.map asRow)) (hn : fs.length ≤ 1000000) (hcap : fs.length ≤ cap) (hl : lo ≤ g) (eg : ∀ args w, (callFunc G args).run Tryz.prog w = .ok (.enter G args) w)
  (hp : ∀ (W : World) (x : AsD), w.grownBy W (some g) → Calls Tryz.prog G (#[.agg #[.string x.player, .string x.pos, .int .i64 x.value]] ++ caps) W (BoolIs (p x) W)) :
  Calls Tryz.prog 153 #[.slice (some ⟨g, off, none⟩) fs.length cap, .func (.func G) #[] caps] w (LeftAs p g off fs w) := by
 have HF := Lib.hid (show ∀ (fs' : List AsD) (w' : World) (c : Nat), RowsAt w' 78 g off 3 (fs'.map asRow) → fs'.length ≤ 1000000 → fs'.length ≤ c → Ass w' lo (.slice (some ⟨g, off, none⟩) fs'.length c) fs' from fun fs' w' c h hn hc => by
  have := h.rows (cap := c) (by simpa using hn) hl (by simpa using hc)
  simpa [Ass] using this)
 have Hp := Lib.hid hp
 have C := Lib.hid (indexAs_calls G caps p lo _ fs w (HF.out fs w cap hv hn hcap) eg fun W f hb => Hp.out W f (gb_below hb _))
 clear hp
 obtain ⟨n, hnn⟩ : ∃ n, fs.length = n := ⟨_, rfl⟩
 have HN := Lib.hid hnn
 rw [hnn] at hn hcap C ⊢
 clear hnn
 go_enter Tryz.func153, Tryz.ntmps153
 go_wp2_with fail
 refine C.out.mono ?_
 rintro e w1 ⟨he, hb1⟩
 rcases he with ⟨rfl, hnone⟩ | ⟨i, f0, rfl, hf0, hpf0, h0⟩
 ·have Hall := Lib.hid (show (fs.filter fun f => !p f) = fs from List.filter_eq_self.2 fun f hf => by rw [hnone f hf]; rfl)
  clear hnone C; go_wp2_with fail
  go_ret
  refine ⟨cap, by rw [Hall.out, HN.out]; rfl, ?_, by rw [Hall.out, HN.out]; exact hcap, gb_below hb1 _⟩
  rw [Hall.out]; exact hv.below hb1
 ·have hi : i < n := by rw [← HN.out]; exact (List.getElem?_eq_some_iff.1 hf0).1
  have Hstart := Lib.hid (filter_takeG hf0 hpf0 h0); have hne : ((i : Int) == -1) = false := by rw [beq_eq_false_iff_ne]; omega
  have hv1 := hv.below hb1; clear hf0 hpf0 h0 C hv; go_wp2_with fail
  go_loopw [5, 6] (fun a b wr => ∃ (i j : Nat) (fs' : List AsD), i < j ∧ j ≤ n ∧ a = .int .i64 i ∧ b = .int .i64 j ∧ fs'.length = n ∧ RowsAt wr 78 g off 3 (fs'.map asRow) ∧ w.grownBy wr (some g) ∧ Hid (fs'.take i = (fs.take j).filter fun f => !p f) ∧ Hid (∀ t, j ≤ t → fs'[t]? = fs[t]?)) (fun _ b _ => n - (intOf b).toNat)
  case atStart => exact ⟨i, i + 1, fs, by omega, by omega, rfl, by go_num, HN.out, hv1, gb_below hb1 _, Lib.hid Hstart.out.symm, Lib.hid fun _ _ => rfl⟩
  case round =>
   clear hv1; obtain ⟨i, j, fs', hij, hj, rfl, rfl, hlen, hr, hgw, HT, HE⟩ := hrel; by_cases hlt : j < n
   ·obtain ⟨f, hf⟩ : ∃ f, fs'[j]? = some f := ⟨_, List.getElem?_eq_getElem (show j < fs'.length by omega)⟩
    obtain ⟨fi, hfi⟩ : ∃ f, fs'[i]? = some f := ⟨_, List.getElem?_eq_getElem (show i < fs'.length by omega)⟩
    have hf' : fs[j]? = some f := by rw [← HE.out j (Nat.le_refl _)]; exact hf
    have Hsn := Lib.hid (filter_snocG (fun f => !p f) hf')
    have Hfi := Lib.hid hfi; obtain ⟨a0, a1, a2⟩ := as_cells hr hf; have hgW := gb_trans hgw (gb_alloc wr (.cells #[.string f.player, .string f.pos, .int .i64 f.value] 78) (some g)); clear hf hf' hfi; go_wp2_with fail
    refine (Hp.out _ f hgW).mono ?_; rintro e w2 ⟨rfl, hb2⟩; have hr2 := (hr.below (below_alloc wr (.cells #[.string f.player, .string f.pos, .int .i64 f.value] 78))).below hb2; have hgW2 := gb_trans hgW (gb_below hb2 (some g)); cases hpf : p f
    ·have d0 : w2.cell? ⟨wr.heap.size, 0, none⟩ = some (.string f.player) := below_cell hb2 (by rw [World.cell?_alloc_at _ _ _ _ rfl]; rfl)
     have d1 : w2.cell? ⟨wr.heap.size, 1, none⟩ = some (.string f.pos) := below_cell hb2 (by rw [World.cell?_alloc_at _ _ _ _ rfl]; rfl)
     have d2 : w2.cell? ⟨wr.heap.size, 2, none⟩ = some (.int .i64 f.value) := below_cell hb2 (by rw [World.cell?_alloc_at _ _ _ _ rfl]; rfl)
     obtain ⟨p0, p1, p2⟩ := as_cells hr2 Hfi.out; have f0 := fun o => hr2.free o
     have hgz : g ≠ wr.heap.size := by have := hr.lt; omega
     have HT' : Hid ((fs'.set i f).take (i + 1) = (fs.take (j + 1)).filter (fun f => !p f)) := Lib.hid (by
      have hil : i < fs'.length := by omega
      rw [Hsn.out, hpf, ← HT.out, List.take_succ_eq_append_getElem (by simpa using hil)]
      simp [List.take_set_of_le])
     have HE' : Hid (∀ t, j + 1 ≤ t → (fs'.set i f)[t]? = fs[t]?) := Lib.hid fun t ht => by
      rw [List.getElem?_set_ne (by omega)]; exact HE.out t (by omega)
     have hset := Lib.hid (as_set hr2 Hfi.out f); have hgs := Lib.hid (gb_trans hgW2 (gb_setAs w2 g (off + i * 3) (.string f.player) (.string f.pos) (.int .i64 f.value))); have hw4 : (i : Int) < (n : Int) := by omega
     clear hpf a0 a1 a2 hb2 hgW hgW2 hgw hr hr2; go_wp2_with fail
     go_roundw
     case rel => exact ⟨i + 1, j + 1, fs'.set i f, by omega, by omega, by go_num, by go_num, by simpa using hlen, hset.out, hgs.out, HT', HE'⟩
     case measure => simp [intOf]; omega
    ·have HT' : Hid (fs'.take i = (fs.take (j + 1)).filter (fun f => !p f)) := Lib.hid (by rw [Hsn.out, hpf, ← HT.out]; simp)
     have HE' : Hid (∀ t, j + 1 ≤ t → fs'[t]? = fs[t]?) := Lib.hid fun t ht => HE.out t (by omega)
     clear hpf; go_wp2_with fail
     go_roundw
     case rel => exact ⟨i, j + 1, fs', by omega, by omega, rfl, by go_num, hlen, hr2, hgW2, HT', HE'⟩
     case measure => simp [intOf]; omega
   ·obtain rfl : j = n := by omega
    have Hfin := Lib.hid (show fs'.take i = fs.filter (fun f => !p f) by rw [HT.out, ← HN.out, List.take_length])
    obtain ⟨w4, hrun, hr4, hg4⟩ := run_clear_rows (P := Tryz.prog) (t := 52) (ty := 0) (sz := 3) (i := i) (n := j - i) (cap := cap - i) Tryz.underlying52 zero_As rfl (by simp [Value.cells, Value.oneCell']) hr (by simp; omega) (by decide)
    have Hr4 := Lib.hid hr4; have Hg4 := Lib.hid hg4; clear hr4 hg4 hr; go_wp2_with fail
    go_ret
    have h5 := Hr4.out; rw [← List.map_take] at h5
    have e : (fs'.take i).length = i := by simp; omega
    rw [Hfin.out] at h5 e
    exact ⟨cap, by rw [e]; rfl, h5, by omega, gb_trans hgw Hg4.out⟩
set_option maxRecDepth 100000 in
set_option maxHeartbeats 4000000 in
theorem deleteAs0_calls (G : Nat) (caps : Array Value) (p : AsD → Bool) (w : World) (eg : ∀ args w, (callFunc G args).run Tryz.prog w = .ok (.enter G args) w)
  (hp : ∀ (W : World) (x : AsD), Below w.heap.size w W → Calls Tryz.prog G (#[.agg #[.string x.player, .string x.pos, .int .i64 x.value]] ++ caps) W (BoolIs (p x) W)) :
  Calls Tryz.prog 153 #[.slice none 0 0, .func (.func G) #[] caps] w fun e w' => e = .returned (.slice none 0 0) ∧ Below w.heap.size w w' := by
 have C := Lib.hid (indexAs_calls G caps p 0 (.slice none 0 0) [] w ⟨by simp, by simp, .inl ⟨rfl, rfl⟩⟩ eg hp)
 clear hp
 go_enter Tryz.func153, Tryz.ntmps153
 go_wp2_with fail
 refine C.out.mono ?_
 rintro e w1 ⟨he, hb1⟩
 rcases he with ⟨rfl, _⟩ | ⟨i, f0, rfl, hf0, _⟩
 ·go_wp2_with fail
  go_ret
  exact ⟨rfl, hb1⟩
 ·simp at hf0
/-- Are two rows one? -/
def aseq (a b : AsD) : Bool := beqS a.player b.player && beqS a.pos b.pos && decide (a.value = b.value)
theorem aseq_iff {a b : AsD} : aseq a b = true ↔ a = b := by
 unfold aseq
 cases a; cases b
 simp only [Bool.and_eq_true, beqS_iff, decide_eq_true_eq, beq_iff_eq, AsD.mk.injEq, and_assoc]
instance : DecidableEq AsD := fun a b => decidable_of_iff (aseq a b = true) aseq_iff
end Go.Proofs.YtddnnjblpgfjeaaGreatDoor
/- Rows of api.Place: memory, copies, searches, what is struck out, equality. -/
namespace Go.Proofs.YtddnnjblpgfjeaaGreatDoor
open Go.RowKit

def plRow (x : PlD) : List Value := [.string x.pos, .int .i64 x.many]
/-- A slice of such rows. -/
def Pls (w : World) (lo : Nat) (v : Value) (xs : List PlD) : Prop := Rows w 125 lo 2 v (xs.map plRow)
theorem Pls.below {w w' : World} {lo : Nat} {v : Value} {xs : List PlD} (h : Pls w lo v xs) (hb : Below w.heap.size w w') : Pls w' lo v xs := Rows.below h hb
theorem Pls.other {w w' : World} {lo B : Nat} {v : Value} {xs : List PlD} (h : Pls w lo v xs) (hg : w.grownBy w' (some B)) (hB : B < lo) : Pls w' lo v xs := Rows.other h hg hB
theorem Pls.mono {w : World} {lo lo' : Nat} {v : Value} {xs : List PlD} (h : Pls w lo v xs) (hl : lo' ≤ lo) : Pls w lo' v xs := Rows.mono h hl
theorem pl_at {w : World} {lo : Nat} {v : Value} {xs : List PlD} (h : Pls w lo v xs) :
  (v = .slice none 0 0 ∧ xs = []) ∨ ∃ g off cap, v = .slice (some ⟨g, off, none⟩) xs.length cap ∧ lo ≤ g ∧ g < w.heap.size ∧ xs.length ≤ 1000000 ∧
   ∀ (i : Nat) (x : PlD), xs[i]? = some x → w.cell? ⟨g, off + i * 2, none⟩ = some (.string x.pos) ∧ w.cell? ⟨g, off + i * 2 + 1, none⟩ = some (.int .i64 x.many) := by
 rcases rows_at h with ⟨e1, e2⟩ | ⟨g, off, cap, e1, e2, e3, hc⟩
 ·exact .inl ⟨e1, by simpa using e2⟩
 ·refine .inr ⟨g, off, cap, by simpa using e1, e2, e3, by simpa using h.small, fun i x hx => ?_⟩
  have hr : (xs.map plRow)[i]?.getD [] = plRow x := by simp [hx]
  exact ⟨hc i 0 _ (by rw [hr]; rfl), hc i 1 _ (by rw [hr]; rfl)⟩
theorem pl_shape {w : World} {lo : Nat} {v : Value} {xs : List PlD} (h : Pls w lo v xs) : ∃ a c, v = .slice a xs.length c := by
 rcases pl_at h with ⟨rfl, rfl⟩ | ⟨g, off, cap, rfl, _⟩
 ·exact ⟨none, 0, rfl⟩
 ·exact ⟨_, _, rfl⟩
theorem pl_each (xs : List PlD) : ∀ r ∈ xs.map plRow, r.length = 2 := by
 intro r hr
 obtain ⟨x, _, rfl⟩ := List.mem_map.1 hr
 rfl
/-- Rows that the call made itself. -/
def OwnPl (w : World) (base : Nat) (v : Value) (xs : List PlD) : Prop := w.ownsRow base 125 2 v xs.length (xs.map plRow).flatten
theorem info_Pl : (Tryz.prog.info? 125).map (fun i => (i.zero, i.size, i.bytes)) = some (some (.agg #[.string ⟨#[]⟩, .int .i64 0]), 2, 24) := by kernel_rfl
theorem pl_cells {w : World} {g off i : Nat} {xs : List PlD} {x : PlD} (h : RowsAt w 125 g off 2 (xs.map plRow)) (hx : xs[i]? = some x) : w.cell? ⟨g, off + i * 2, none⟩ = some (.string x.pos) ∧ w.cell? ⟨g, off + i * 2 + 1, none⟩ = some (.int .i64 x.many) := by
 have hr : (xs.map plRow)[i]? = some (plRow x) := by simp [hx]
 exact ⟨h.cell hr (j := 0) rfl, h.cell hr (j := 1) rfl⟩
/-- Are two rows one? -/
def pleq (a b : PlD) : Bool := beqS a.pos b.pos && decide (a.many = b.many)
theorem pleq_iff {a b : PlD} : pleq a b = true ↔ a = b := by
 unfold pleq
 cases a; cases b
 simp only [Bool.and_eq_true, beqS_iff, decide_eq_true_eq, beq_iff_eq, PlD.mk.injEq, and_assoc]
instance : DecidableEq PlD := fun a b => decidable_of_iff (pleq a b = true) pleq_iff
end Go.Proofs.YtddnnjblpgfjeaaGreatDoor
/- Rows of value.candidate: memory, copies, searches, what is struck out, equality. -/
namespace Go.Proofs.YtddnnjblpgfjeaaGreatDoor
open Go.RowKit

def caRow (x : (AsD × Nat)) : List Value := [.string x.1.player, .string x.1.pos, .int .i64 x.1.value, .int .i64 ((x.2 : Nat) : Int)]
/-- A slice of such rows. -/
def Cas (w : World) (lo : Nat) (v : Value) (xs : List (AsD × Nat)) : Prop := Rows w 146 lo 4 v (xs.map caRow)
theorem Cas.below {w w' : World} {lo : Nat} {v : Value} {xs : List (AsD × Nat)} (h : Cas w lo v xs) (hb : Below w.heap.size w w') : Cas w' lo v xs := Rows.below h hb
theorem Cas.other {w w' : World} {lo B : Nat} {v : Value} {xs : List (AsD × Nat)} (h : Cas w lo v xs) (hg : w.grownBy w' (some B)) (hB : B < lo) : Cas w' lo v xs := Rows.other h hg hB
theorem Cas.mono {w : World} {lo lo' : Nat} {v : Value} {xs : List (AsD × Nat)} (h : Cas w lo v xs) (hl : lo' ≤ lo) : Cas w lo' v xs := Rows.mono h hl
theorem ca_at {w : World} {lo : Nat} {v : Value} {xs : List (AsD × Nat)} (h : Cas w lo v xs) :
  (v = .slice none 0 0 ∧ xs = []) ∨ ∃ g off cap, v = .slice (some ⟨g, off, none⟩) xs.length cap ∧ lo ≤ g ∧ g < w.heap.size ∧ xs.length ≤ 1000000 ∧
   ∀ (i : Nat) (x : (AsD × Nat)), xs[i]? = some x → w.cell? ⟨g, off + i * 4, none⟩ = some (.string x.1.player) ∧ w.cell? ⟨g, off + i * 4 + 1, none⟩ = some (.string x.1.pos) ∧ w.cell? ⟨g, off + i * 4 + 2, none⟩ = some (.int .i64 x.1.value) ∧ w.cell? ⟨g, off + i * 4 + 3, none⟩ = some (.int .i64 ((x.2 : Nat) : Int)) := by
 rcases rows_at h with ⟨e1, e2⟩ | ⟨g, off, cap, e1, e2, e3, hc⟩
 ·exact .inl ⟨e1, by simpa using e2⟩
 ·refine .inr ⟨g, off, cap, by simpa using e1, e2, e3, by simpa using h.small, fun i x hx => ?_⟩
  have hr : (xs.map caRow)[i]?.getD [] = caRow x := by simp [hx]
  exact ⟨hc i 0 _ (by rw [hr]; rfl), hc i 1 _ (by rw [hr]; rfl), hc i 2 _ (by rw [hr]; rfl), hc i 3 _ (by rw [hr]; rfl)⟩
theorem ca_shape {w : World} {lo : Nat} {v : Value} {xs : List (AsD × Nat)} (h : Cas w lo v xs) : ∃ a c, v = .slice a xs.length c := by
 rcases ca_at h with ⟨rfl, rfl⟩ | ⟨g, off, cap, rfl, _⟩
 ·exact ⟨none, 0, rfl⟩
 ·exact ⟨_, _, rfl⟩
theorem ca_each (xs : List (AsD × Nat)) : ∀ r ∈ xs.map caRow, r.length = 4 := by
 intro r hr
 obtain ⟨x, _, rfl⟩ := List.mem_map.1 hr
 rfl
/-- Rows that the call made itself. -/
def OwnCa (w : World) (base : Nat) (v : Value) (xs : List (AsD × Nat)) : Prop := w.ownsRow base 146 4 v xs.length (xs.map caRow).flatten
theorem ca_of_owns {w : World} {base : Nat} {v : Value} {xs : List (AsD × Nat)} (h : OwnCa w base v xs) (hs : xs.length ≤ 1000000) : Cas w base v xs :=
 Rows.of_owns (by unfold OwnCa at h; simpa using h) (by simpa using hs) (ca_each xs)
theorem info_Ca : (Tryz.prog.info? 146).map (fun i => (i.zero, i.size, i.bytes)) = some (some (.agg #[.string ⟨#[]⟩, .string ⟨#[]⟩, .int .i64 0, .int .i64 0]), 4, 48) := by kernel_rfl
end Go.Proofs.YtddnnjblpgfjeaaGreatDoor
namespace Go.Proofs.YtddnnjblpgfjeaaGreatDoor
open Go.RowKit

/-- The least, the first of several. -/
def minAs (cf : AsD → AsD → Int) : AsD → List AsD → AsD
 | m, [] => m
 | m, x :: xs => minAs cf (if cf x m < 0 then x else m) xs
theorem minAs_snoc (cf : AsD → AsD → Int) (m : AsD) (l : List AsD) (x : AsD) : minAs cf m (l ++ [x]) = (if cf x (minAs cf m l) < 0 then x else minAs cf m l) := by
 induction l generalizing m with
 | nil => rfl
 | cons a l ih => simp only [List.cons_append, minAs]; exact ih _
theorem below_rowAs {b X : Nat} {w w' : World} (h : Below b w w') (hX : b ≤ X) (x : AsD) : Below b w (((w'.setCell ⟨X, 0, none⟩ (.string x.player)).setCell ⟨X, 1, none⟩ (.string x.pos)).setCell ⟨X, 2, none⟩ (.int .i64 x.value)) := by
 exact (((h.setCell (p := ⟨X, 0, none⟩) hX _).setCell (p := ⟨X, 1, none⟩) hX _).setCell (p := ⟨X, 2, none⟩) hX _)
theorem heap_rowAs {X : Nat} {w : World} {x0 : AsD} (h : w.heap[X]? = some (.cells #[.string x0.player, .string x0.pos, .int .i64 x0.value] 78 (0, 0))) (x : AsD) : (((w.setCell ⟨X, 0, none⟩ (.string x.player)).setCell ⟨X, 1, none⟩ (.string x.pos)).setCell ⟨X, 2, none⟩ (.int .i64 x.value)).heap[X]? = some (.cells #[.string x.player, .string x.pos, .int .i64 x.value] 78 (0, 0)) := by
 simp [World.setCell, Array.getElem?_modify, h]
theorem heap_rowAsZ {X : Nat} {w : World} (h : w.heap[X]? = some (.cells #[.string ⟨#[]⟩, .string ⟨#[]⟩, .int .i64 0] 78 (0, 0))) (x : AsD) : (((w.setCell ⟨X, 0, none⟩ (.string x.player)).setCell ⟨X, 1, none⟩ (.string x.pos)).setCell ⟨X, 2, none⟩ (.int .i64 x.value)).heap[X]? = some (.cells #[.string x.player, .string x.pos, .int .i64 x.value] 78 (0, 0)) := by
 simp [World.setCell, Array.getElem?_modify, h]
def o111_7 : Array Go.Oper := #[
 ⟨some 20, .move (.tmp 1), 152, "sort.go:85", #[], none⟩,
 ⟨some 21, .move (.tmp 0), 52, "sort.go:85", #[], none⟩,
 ⟨some 22, .move (.tmp 6), 3, "sort.go:85", #[], none⟩,
 ⟨some 23, .indexAddr 52 (.tmp 21) (.tmp 22), 0, "sort.go:85", #[⟨1, .data⟩, ⟨2, .data⟩], none⟩,
 ⟨some 24, .load 78 (.tmp 23), 78, "sort.go:85", #[⟨3, .data⟩], none⟩,
 ⟨some 25, .load 78 (.tmp 5), 78, "sort.go:85", #[], none⟩,
 ⟨some 26, .call { callee := .value (.tmp 20), args := #[.tmp 24, .tmp 25], argTypes := #[78, 78] }, 3, "sort.go:85", #[⟨0, .data⟩, ⟨4, .data⟩, ⟨5, .data⟩], none⟩,
 ⟨some 27, .binOp .lss 3 (.tmp 26) (.const (.int .i64 0)) 3, 4, "sort.go:85", #[⟨6, .data⟩], none⟩]
theorem o111_7_0 : o111_7[0]? = some (⟨some 20, .move (.tmp 1), 152, "sort.go:85", #[], none⟩ : Go.Oper) := rfl
theorem o111_7_1 : o111_7[1]? = some (⟨some 21, .move (.tmp 0), 52, "sort.go:85", #[], none⟩ : Go.Oper) := rfl
theorem o111_7_2 : o111_7[2]? = some (⟨some 22, .move (.tmp 6), 3, "sort.go:85", #[], none⟩ : Go.Oper) := rfl
theorem o111_7_3 : o111_7[3]? = some (⟨some 23, .indexAddr 52 (.tmp 21) (.tmp 22), 0, "sort.go:85", #[⟨1, .data⟩, ⟨2, .data⟩], none⟩ : Go.Oper) := rfl
theorem o111_7_4 : o111_7[4]? = some (⟨some 24, .load 78 (.tmp 23), 78, "sort.go:85", #[⟨3, .data⟩], none⟩ : Go.Oper) := rfl
theorem o111_7_5 : o111_7[5]? = some (⟨some 25, .load 78 (.tmp 5), 78, "sort.go:85", #[], none⟩ : Go.Oper) := rfl
theorem o111_7_6 : o111_7[6]? = some (⟨some 26, .call { callee := .value (.tmp 20), args := #[.tmp 24, .tmp 25], argTypes := #[78, 78] }, 3, "sort.go:85", #[⟨0, .data⟩, ⟨4, .data⟩, ⟨5, .data⟩], none⟩ : Go.Oper) := rfl
theorem o111_7_7 : o111_7[7]? = some (⟨some 27, .binOp .lss 3 (.tmp 26) (.const (.int .i64 0)) 3, 4, "sort.go:85", #[⟨6, .data⟩], none⟩ : Go.Oper) := rfl
theorem o111_7_ns : Go.Region.noSelect o111_7 = true := by kernel_rfl
set_option maxRecDepth 100000 in
set_option maxHeartbeats 8000000 in
theorem minFuncAs_calls (cf : AsD → AsD → Int) (G : Nat) (caps : Array Value) (lo : Nat) (v : Value) (a : AsD) (l : List AsD) (w : World) (hv : Ass w lo v (a :: l)) (eg : ∀ args w, (callFunc G args).run Tryz.prog w = .ok (.enter G args) w)
  (hG : ∀ (W : World) (x y : AsD), x ∈ a :: l → y ∈ a :: l → Below w.heap.size w W → Calls Tryz.prog G (#[.agg #[.string x.player, .string x.pos, .int .i64 x.value], .agg #[.string y.player, .string y.pos, .int .i64 y.value]] ++ caps) W (IntBelow (cf x y) W)) :
  Calls Tryz.prog 111 #[v, .func (.func G) #[] caps] w fun e w' => e = .returned (.agg #[.string (minAs cf a l).player, .string (minAs cf a l).pos, .int .i64 (minAs cf a l).value]) ∧ Below w.heap.size w w' := by
 rcases as_at hv with ⟨_, h⟩ | ⟨g, off, cap, rfl, _, hg, hn, hcell⟩
 ·cases h
 have HG := Lib.hid hG
 have Hcell := Lib.hid hcell
 obtain ⟨n, hnn⟩ : ∃ n, (a :: l).length = n := ⟨_, rfl⟩
 have Hn := Lib.hid hnn
 have h1n : 1 ≤ n := by rw [← hnn]; simp
 obtain ⟨q0, q1, q2⟩ := hcell 0 a rfl
 rw [hnn] at hn ⊢
 obtain ⟨W, hW⟩ : ∃ W, W = (w.alloc (.cells #[.string ⟨#[]⟩, .string ⟨#[]⟩, .int .i64 0] 78)).alloc (.cells #[.string a.player, .string a.pos, .int .i64 a.value] 78) := ⟨_, rfl⟩
 have hwW : Below w.heap.size w W := by rw [hW]; exact below_step (below_alloc w _) (below_alloc _ _)
 obtain ⟨X, hX⟩ : ∃ X, X = w.heap.size := ⟨_, rfl⟩
 have hx0 : W.heap[X]? = some (.cells #[.string ⟨#[]⟩, .string ⟨#[]⟩, .int .i64 0] 78 (0, 0)) := by rw [hW, hX]; exact heap_alG (heap_alloc_new w _) _
 have hx1 : W.heap[X + 1]? = some (.cells #[.string a.player, .string a.pos, .int .i64 a.value] 78 (0, 0)) := by rw [hW, hX]; have := heap_alloc_new (w.alloc (.cells #[.string ⟨#[]⟩, .string ⟨#[]⟩, .int .i64 0] 78)) (.cells #[.string a.player, .string a.pos, .int .i64 a.value] 78); simpa using this
 have HX := Lib.hid hX
 have Hx0 := Lib.hid hx0
 have Hx1 := Lib.hid hx1
 have HwW := Lib.hid hwW
 have hXw : w.heap.size ≤ X := by rw [hX]; exact Nat.le_refl _
 simp only [Nat.zero_mul, Nat.add_zero] at q0 q1 q2
 have Hall := Lib.hid (show minAs cf a (l.take (n - 1)) = minAs cf a l by rw [List.take_of_length_le (by have := Hn.out; simp at this; omega)])
 have Hmem := Lib.hid (show ∀ j, minAs cf a (l.take j) ∈ a :: l from fun j => by
  have hm : ∀ (l' : List AsD) (m : AsD), minAs cf m l' = m ∨ minAs cf m l' ∈ l' := by
   intro l'; induction l' with
   | nil => intro m; exact .inl rfl
   | cons x l' ih =>
    intro m; rcases ih (if cf x m < 0 then x else m) with h | h
    ·unfold minAs; rw [h]; split <;> simp
    ·unfold minAs; exact .inr (by simp [h])
  rcases hm (l.take j) a with h | h
  ·rw [h]; simp
  ·exact List.mem_cons_of_mem _ (List.mem_of_mem_take h))
 generalize minAs cf a l = M0 at Hall ⊢
 clear hv hcell hG hnn hx0 hx1 hwW
 go_enter Tryz.func111, Tryz.ntmps111
 go_upto_region 4 with fail
 rw [← hW, ← hX]
 clear hW hX q0 q1 q2
 go_wp2_with fail
 go_loopw [6] (fun i wr => ∃ k : Nat, 1 ≤ k ∧ k ≤ n ∧ i = .int .i64 k ∧ Below w.heap.size w wr ∧ Hid (wr.heap[X]? = some (.cells #[.string ⟨#[]⟩, .string ⟨#[]⟩, .int .i64 0] 78 (0, 0))) ∧ Hid (wr.heap[X + 1]? = some (.cells #[.string (minAs cf a (l.take (k - 1))).player, .string (minAs cf a (l.take (k - 1))).pos, .int .i64 (minAs cf a (l.take (k - 1))).value] 78 (0, 0)))) (fun i _ => n - (intOf i).toNat)
 case atStart => exact ⟨1, Nat.le_refl _, h1n, rfl, HwW.out, Hx0, Lib.hid (by simpa [minAs] using Hx1.out)⟩
 case round =>
  clear Hx0 Hx1 HwW; obtain ⟨k, hk1, hk, rfl, hb, H0, H1⟩ := hrel; by_cases hlt : k < n
  ·obtain ⟨x, hx⟩ : ∃ x, (a :: l)[k]? = some x := ⟨_, List.getElem?_eq_getElem (by rw [Hn.out]; exact hlt)⟩
   obtain ⟨q0, q1, q2⟩ := Hcell.out k x hx
   have Hst := Lib.hid (show minAs cf a (l.take k) = if cf x (minAs cf a (l.take (k - 1))) < 0 then x else minAs cf a (l.take (k - 1)) by
    obtain ⟨k', rfl⟩ : ∃ k', k = k' + 1 := ⟨k - 1, by omega⟩
    rw [Nat.add_sub_cancel, take_snocG (by simpa using hx), minAs_snoc])
   have Hxm := Lib.hid (List.mem_of_getElem? hx); have Hmm := Lib.hid (Hmem.out (k - 1)); have HxK := Lib.hid hx; clear hx; generalize hM : minAs cf a (l.take (k - 1)) = M at H1 Hst Hmm
   have HM := Lib.hid hM; clear hM; have p0 := below_cell hb q0; have p1 := below_cell hb q1; have p2 := below_cell hb q2; have x0 := cell_at H1.out 0 rfl; have x1 := cell_at H1.out 1 rfl; have x2 := cell_at H1.out 2 rfl; have HS := Lib.hid (show ∀ w', Below wr.heap.size wr w' → (Below wr.heap.size wr w' ∧ w'.cell? ⟨g, off + k * 3, none⟩ = some (.string x.player) ∧ w'.cell? ⟨g, off + k * 3 + 1, none⟩ = some (.string x.pos) ∧ w'.cell? ⟨g, off + k * 3 + 2, none⟩ = some (.int .i64 x.value) ∧ w'.cell? ⟨X + 1, 0, none⟩ = some (.string M.player) ∧ w'.cell? ⟨X + 1, 1, none⟩ = some (.string M.pos) ∧ w'.cell? ⟨X + 1, 2, none⟩ = some (.int .i64 M.value)) from fun w' hb => ⟨hb, below_cell hb p0, below_cell hb p1, below_cell hb p2, below_cell hb x0, below_cell hb x1, below_cell hb x2⟩)
   have hb0 := (Below.refl wr.heap.size wr).drew; clear q0 q1 q2 p0 p1 p2 x0 x1 x2; go_upto_region 7 with fail
   show Code.wp _ (Code.region 7 o111_7 true) _ _ _
   refine region_start 8 (fun w' => Below wr.heap.size wr w' ∧ w'.cell? ⟨g, off + k * 3, none⟩ = some (.string x.player) ∧ w'.cell? ⟨g, off + k * 3 + 1, none⟩ = some (.string x.pos) ∧ w'.cell? ⟨g, off + k * 3 + 2, none⟩ = some (.int .i64 x.value) ∧ w'.cell? ⟨X + 1, 0, none⟩ = some (.string M.player) ∧ w'.cell? ⟨X + 1, 1, none⟩ = some (.string M.pos) ∧ w'.cell? ⟨X + 1, 2, none⟩ = some (.int .i64 M.value)) (by kernel_rfl) rfl ?_ (fun hHeld => ?_)
   ·(exact HS.out _ (by first | assumption | exact hHeld.1 | exact below_step hHeld.1 (by assumption)))
   refine take_to 0 20 (bQ 8 1) (v := ?_) o111_7_0 rfl o111_7_ns (by kernel_rfl) (by kernel_rfl) (fun _ _ _ h => h) (by rfl) ?y0m (by assumption) ?_
   case y0m => intro w h; (try dsimp only at h); go_simp; try with_reducible rfl
   simp only [sE0, sE1]; refine take_to 1 21 (bQ 8 3) (v := ?_) o111_7_1 rfl o111_7_ns (by kernel_rfl) (by kernel_rfl) (fun _ _ _ h => h) (by rfl) ?y1m (by assumption) ?_
   case y1m => intro w h; (try dsimp only at h); go_simp; try with_reducible rfl
   simp only [sE0, sE1]; refine take_to 2 22 (bQ 8 7) (v := ?_) o111_7_2 rfl o111_7_ns (by kernel_rfl) (by kernel_rfl) (fun _ _ _ h => h) (by rfl) ?y2m (by assumption) ?_
   case y2m => intro w h; (try dsimp only at h); go_simp; try with_reducible rfl
   simp only [sE0, sE1]; refine take_to 3 23 (bQ 8 15) (v := ?_) o111_7_3 rfl o111_7_ns (by kernel_rfl) (by kernel_rfl) (fun _ _ _ h => h) (by rfl) ?y3m (by assumption) ?_
   case y3m => intro w h; (try dsimp only at h); go_simp; try with_reducible rfl
   simp only [sE0, sE1]; refine take_to 4 24 (bQ 8 31) (v := ?_) o111_7_4 rfl o111_7_ns (by kernel_rfl) (by kernel_rfl) (fun _ _ _ h => h) (by rfl) ?y4m (by assumption) ?_
   case y4m => intro w h; (try dsimp only at h); go_simp; try with_reducible rfl
   simp only [sE0, sE1]; refine take_to 5 25 (bQ 8 63) (v := ?_) o111_7_5 rfl o111_7_ns (by kernel_rfl) (by kernel_rfl) (fun _ _ _ h => h) (by rfl) ?y5m (by assumption) ?_
   case y5m => intro w h; (try dsimp only at h); go_simp; try with_reducible rfl
   simp only [sE0, sE1]; refine run_to 6 (bQ 8 127) o111_7_6 (by kernel_rfl) (by kernel_rfl) (by rfl) (fun K hK => ?_)
   go_simp; refine (HG.out _ x M Hxm.out Hmm.out (below_step hb hHeld.1)).mono ?_; rintro e w' ⟨rfl, hb'⟩; go_wp2_with fail
   refine hK.out _ _ ?_ (fun hHeld => ?_)
   ·(exact HS.out _ (by first | assumption | exact hHeld.1 | exact below_step hHeld.1 (by assumption)))
   clear hK K; try simp only [Act.put, sEt, sE0, sE1]
   refine take_to 7 27 (bQ 8 255) (v := ?_) o111_7_7 rfl o111_7_ns (by kernel_rfl) (by kernel_rfl) (fun _ _ _ h => h) (by rfl) ?y7m (by assumption) ?_
   case y7m => intro w h; (try dsimp only at h); go_simp; try with_reducible rfl
   simp only [sE0, sE1]; refine wpAnyH_done (by kernel_rfl) ?_ _
   have hb1 := below_step hb hHeld.1; have H01 := Lib.hid (cells_later H0.out hHeld.1); have H11 := Lib.hid (cells_later H1.out hHeld.1); obtain ⟨r0, r1, r2⟩ := Hcell.out k x HxK.out; have p0 := below_cell hb1 r0; have p1 := below_cell hb1 r1; have p2 := below_cell hb1 r2; have x0 := cell_at H11.out 0 rfl; have x1 := cell_at H11.out 1 rfl; have x2 := cell_at H11.out 2 rfl; have hf := fun o => frozen_ofG H11.out o
   clear r0 r1 r2 hb HS hb0; by_cases hl : cf x M < 0
   ·have e1 : decide (cf x M < 0) = true := decide_eq_true hl
    have HR := Lib.hid (heap_rowAs H11.out x); have HR0 := Lib.hid (show (((w'.setCell ⟨(X + 1), 0, none⟩ (.string x.player)).setCell ⟨(X + 1), 1, none⟩ (.string x.pos)).setCell ⟨(X + 1), 2, none⟩ (.int .i64 x.value)).heap[X]? = _ from by simpa [World.setCell, Array.getElem?_modify] using H01.out)
    have HB := Lib.hid (below_rowAs hb1 (show w.heap.size ≤ X + 1 by omega) x)
    have HN := Lib.hid (show minAs cf a (l.take (k + 1 - 1)) = x by rw [Nat.add_sub_cancel, Hst.out, if_pos hl])
    clear hb1 hHeld; go_wp2_with fail
    go_roundw
    case rel => exact ⟨k + 1, by omega, by omega, by go_num, HB.out, HR0, by rw [HN.out]; exact HR⟩
    case measure => simp [intOf]; omega
   ·have e1 : decide (cf x M < 0) = false := decide_eq_false hl
    have HN := Lib.hid (show minAs cf a (l.take (k + 1 - 1)) = M by rw [Nat.add_sub_cancel, Hst.out, if_neg hl])
    go_wp2_with fail
    go_roundw
    case rel => exact ⟨k + 1, by omega, by omega, by go_num, hb1, H01, by rw [HN.out]; exact H11⟩
    case measure => simp [intOf]; omega
  ·obtain rfl : k = n := by omega
   have H1' := H1
   rw [Hall.out] at H1'
   have x0 := cell_at H1'.out 0 rfl; have x1 := cell_at H1'.out 1 rfl; have x2 := cell_at H1'.out 2 rfl; have y0 := cell_at H0.out 0 rfl; have y1 := cell_at H0.out 1 rfl; have y2 := cell_at H0.out 2 rfl; have hf := fun o => frozen_ofG H0.out o
   have HR := Lib.hid (heap_rowAsZ H0.out M0); have HB := Lib.hid (below_rowAs hb hXw M0); clear H1 hb; go_wp2_with fail
   have z0 := cell_at HR.out 0 rfl; have z1 := cell_at HR.out 1 rfl; have z2 := cell_at HR.out 2 rfl; refine bodyPost_ret (v := .agg #[.string M0.player, .string M0.pos, .int .i64 M0.value]) ?_ rfl ⟨rfl, HB.out⟩; rw [results_cellG rfl]; go_simp
end Go.Proofs.YtddnnjblpgfjeaaGreatDoor
