/- Rows of api.Pair: memory, copies, searches, what is struck out, equality. -/
import Derived.Test.YtddnnjblpgfjeaaGreatDoorMgan
import Derived.Test.YtddnnjblpgfjeaaGreatDoorMgae
/- Rows of api.Over: memory, copies, searches, what is struck out, equality. -/
namespace Go.Proofs.YtddnnjblpgfjeaaGreatDoor
open Go.RowKit

structure OvD where
 player : ByteArray
 worth : Int
 rank : Int
instance : Inhabited OvD := ⟨⟨⟨#[]⟩, 0, 0⟩⟩
def ovRow (x : OvD) : List Value := [.string x.player, .int .i64 x.worth, .int .i64 x.rank]
/-- A slice of such rows. -/
def Ovs (w : World) (lo : Nat) (v : Value) (xs : List OvD) : Prop := Rows w 74 lo 3 v (xs.map ovRow)
theorem Ovs.below {w w' : World} {lo : Nat} {v : Value} {xs : List OvD} (h : Ovs w lo v xs) (hb : Below w.heap.size w w') : Ovs w' lo v xs := Rows.below h hb
theorem Ovs.other {w w' : World} {lo B : Nat} {v : Value} {xs : List OvD} (h : Ovs w lo v xs) (hg : w.grownBy w' (some B)) (hB : B < lo) : Ovs w' lo v xs := Rows.other h hg hB
theorem Ovs.mono {w : World} {lo lo' : Nat} {v : Value} {xs : List OvD} (h : Ovs w lo v xs) (hl : lo' ≤ lo) : Ovs w lo' v xs := Rows.mono h hl
theorem ov_at {w : World} {lo : Nat} {v : Value} {xs : List OvD} (h : Ovs w lo v xs) :
  (v = .slice none 0 0 ∧ xs = []) ∨ ∃ g off cap, v = .slice (some ⟨g, off, none⟩) xs.length cap ∧ lo ≤ g ∧ g < w.heap.size ∧ xs.length ≤ 1000000 ∧
   ∀ (i : Nat) (x : OvD), xs[i]? = some x → w.cell? ⟨g, off + i * 3, none⟩ = some (.string x.player) ∧ w.cell? ⟨g, off + i * 3 + 1, none⟩ = some (.int .i64 x.worth) ∧ w.cell? ⟨g, off + i * 3 + 2, none⟩ = some (.int .i64 x.rank) := by
 rcases rows_at h with ⟨e1, e2⟩ | ⟨g, off, cap, e1, e2, e3, hc⟩
 ·exact .inl ⟨e1, by simpa using e2⟩
 ·refine .inr ⟨g, off, cap, by simpa using e1, e2, e3, by simpa using h.small, fun i x hx => ?_⟩
  have hr : (xs.map ovRow)[i]?.getD [] = ovRow x := by simp [hx]
  exact ⟨hc i 0 _ (by rw [hr]; rfl), hc i 1 _ (by rw [hr]; rfl), hc i 2 _ (by rw [hr]; rfl)⟩
theorem ov_shape {w : World} {lo : Nat} {v : Value} {xs : List OvD} (h : Ovs w lo v xs) : ∃ a c, v = .slice a xs.length c := by
 rcases ov_at h with ⟨rfl, rfl⟩ | ⟨g, off, cap, rfl, _⟩
 ·exact ⟨none, 0, rfl⟩
 ·exact ⟨_, _, rfl⟩
theorem ov_each (xs : List OvD) : ∀ r ∈ xs.map ovRow, r.length = 3 := by
 intro r hr
 obtain ⟨x, _, rfl⟩ := List.mem_map.1 hr
 rfl
/-- Rows that the call made itself. -/
def OwnOv (w : World) (base : Nat) (v : Value) (xs : List OvD) : Prop := w.ownsRow base 74 3 v xs.length (xs.map ovRow).flatten
theorem info_Ov : (Tryz.prog.info? 74).map (fun i => (i.zero, i.size, i.bytes)) = some (some (.agg #[.string ⟨#[]⟩, .int .i64 0, .int .i64 0]), 3, 32) := by kernel_rfl
theorem zero_Ov (w : World) : (zeroValue 74).run Tryz.prog w = .ok (.agg #[.string ⟨#[]⟩, .int .i64 0, .int .i64 0]) w := by kernel_rfl
theorem ov_cells {w : World} {g off i : Nat} {xs : List OvD} {x : OvD} (h : RowsAt w 74 g off 3 (xs.map ovRow)) (hx : xs[i]? = some x) : w.cell? ⟨g, off + i * 3, none⟩ = some (.string x.player) ∧ w.cell? ⟨g, off + i * 3 + 1, none⟩ = some (.int .i64 x.worth) ∧ w.cell? ⟨g, off + i * 3 + 2, none⟩ = some (.int .i64 x.rank) := by
 have hr : (xs.map ovRow)[i]? = some (ovRow x) := by simp [hx]
 exact ⟨h.cell hr (j := 0) rfl, h.cell hr (j := 1) rfl, h.cell hr (j := 2) rfl⟩
theorem ov_set {w : World} {g off i : Nat} {xs : List OvD} {x0 : OvD} (h : RowsAt w 74 g off 3 (xs.map ovRow)) (hi : xs[i]? = some x0) (x : OvD) :
  RowsAt (((w.setCell ⟨g, off + i * 3, none⟩ (.string x.player)).setCell ⟨g, off + i * 3 + 1, none⟩ (.int .i64 x.worth)).setCell ⟨g, off + i * 3 + 2, none⟩ (.int .i64 x.rank)) 74 g off 3 ((xs.set i x).map ovRow) := by
 have hlt : i < (xs.map ovRow).length := by simpa using (List.getElem?_eq_some_iff.1 hi).1
 have r0 := h.set (show (xs.map ovRow)[i]? = some (ovRow x0) by simp [hi]) (show 0 < 3 by omega) (.string x.player)
 have r1 := r0.set (List.getElem?_set_self hlt) (show 1 < 3 by omega) (.int .i64 x.worth)
 rw [List.set_set] at r1
 have r2 := r1.set (List.getElem?_set_self hlt) (show 2 < 3 by omega) (.int .i64 x.rank)
 rw [List.set_set] at r2
 rw [List.map_set]; exact r2
theorem gb_setOv (w : World) (g off : Nat) (a0 a1 a2 : Value) : w.grownBy (((w.setCell ⟨g, off, none⟩ a0).setCell ⟨g, off + 1, none⟩ a1).setCell ⟨g, off + 2, none⟩ a2) (some g) :=
 gb_trans (gb_setCell _ _ _ _) (gb_trans (gb_setCell _ _ _ _) (gb_setCell _ _ _ _))
/-- What a look for the first one gives. -/
def IdxFirstOv (p : OvD → Bool) (xs : List OvD) (w : World) (e : Ending) (w' : World) : Prop :=
 ((e = .returned (.int .i64 (-1)) ∧ ∀ x ∈ xs, p x = false) ∨ ∃ i x, e = .returned (.int .i64 ((i : Nat) : Int)) ∧ xs[i]? = some x ∧ p x = true ∧ ∀ j y, j < i → xs[j]? = some y → p y = false) ∧ Below w.heap.size w w'
set_option maxRecDepth 100000 in
set_option maxHeartbeats 4000000 in
theorem indexOv_calls (G : Nat) (caps : Array Value) (p : OvD → Bool) (lo : Nat) (v : Value) (xs : List OvD) (w : World) (hv : Ovs w lo v xs) (eg : ∀ args w, (callFunc G args).run Tryz.prog w = .ok (.enter G args) w)
  (hp : ∀ (W : World) (x : OvD), Below w.heap.size w W → Calls Tryz.prog G (#[.agg #[.string x.player, .int .i64 x.worth, .int .i64 x.rank]] ++ caps) W (BoolIs (p x) W)) :
  Calls Tryz.prog 142 #[v, .func (.func G) #[] caps] w (IdxFirstOv p xs w) := by
 have Hp := Lib.hid hp
 clear hp
 rcases ov_at hv with ⟨rfl, rfl⟩ | ⟨gg, off, cap, rfl, hlo, hg, hn, hcell⟩
 ·clear hv
  go_enter Tryz.func142, Tryz.ntmps142; go_wp2_with fail
  refine wp_loop_rounds 1 ?_; rw [rounds_succ]; go_wp2_with fail
  go_ret
  exact ⟨.inl ⟨rfl, by simp⟩, Below.refl _ _⟩
 ·have Hc := Lib.hid hcell
  clear hv hcell; go_enter Tryz.func142, Tryz.ntmps142; go_wp2_with fail
  go_loopw [8] (fun i wr => ∃ k : Nat, k ≤ xs.length ∧ i = .int .i64 k ∧ Hid (∀ j y, j < k → xs[j]? = some y → p y = false) ∧ Below w.heap.size w wr) (fun i _ => xs.length - (intOf i).toNat)
  case atStart => exact ⟨0, Nat.zero_le _, rfl, Lib.hid fun _ _ h => by omega, Below.refl _ _⟩
  case round =>
   obtain ⟨k, hk, rfl, H0, hb⟩ := hrel; by_cases hlt : k < xs.length
   ·obtain ⟨f, hf⟩ : ∃ f, xs[k]? = some f := ⟨xs[k], List.getElem?_eq_getElem hlt⟩
    obtain ⟨q0, q1, q2⟩ := Hc.out k f hf; have g0 := below_cell hb q0; have g1 := below_cell hb q1; have g2 := below_cell hb q2; have Hf := Lib.hid hf; clear hf q0 q1 q2; go_wp2_with fail
    refine (Hp.out _ f hb).mono ?_; rintro e w1 ⟨rfl, hb1⟩; have hb2 := below_step hb hb1; clear g0 g1 g2; cases hpf : p f
    ·have H1 : Hid (∀ j y, j < k + 1 → xs[j]? = some y → p y = false) := Lib.hid fun j y hj hy => by
      rcases Nat.lt_succ_iff_lt_or_eq.1 hj with h | rfl
      ·exact H0.out j y h hy
      ·rw [Hf.out] at hy; cases hy; exact hpf
     clear hpf; go_wp2_with fail
     go_roundw
     case rel => exact ⟨k + 1, by omega, by go_num, H1, hb2⟩
     case measure => simp [intOf]; omega
    ·have Hq := Lib.hid hpf
     clear hpf; go_wp2_with fail
     go_ret
     exact ⟨.inr ⟨k, f, rfl, Hf.out, Hq.out, H0.out⟩, hb2⟩
   ·obtain rfl : k = xs.length := by omega
    go_wp2_with fail
    go_ret
    refine ⟨.inl ⟨rfl, fun f hf => ?_⟩, hb⟩
    obtain ⟨i, hi⟩ := List.getElem?_of_mem hf; exact H0.out i f (List.getElem?_eq_some_iff.1 hi).1 hi
/-- What striking some out leaves. -/
def LeftOv (p : OvD → Bool) (g off : Nat) (xs : List OvD) (w : World) (e : Ending) (w' : World) : Prop := ∃ c, e = .returned (.slice (some ⟨g, off, none⟩) (xs.filter fun x => !p x).length c) ∧ RowsAt w' 74 g off 3 ((xs.filter fun x => !p x).map ovRow) ∧ (xs.filter fun x => !p x).length ≤ c ∧ w.grownBy w' (some g)
set_option maxRecDepth 100000 in
set_option maxHeartbeats 4000000 in
theorem deleteOv_calls (G : Nat) (caps : Array Value) (p : OvD → Bool) (lo g off cap : Nat) (fs : List OvD) (w : World) (hv : RowsAt w 74 g off 3 (fs.map ovRow)) (hn : fs.length ≤ 1000000) (hcap : fs.length ≤ cap) (hl : lo ≤ g) (eg : ∀ args w, (callFunc G args).run Tryz.prog w = .ok (.enter G args) w)
  (hp : ∀ (W : World) (x : OvD), w.grownBy W (some g) → Calls Tryz.prog G (#[.agg #[.string x.player, .int .i64 x.worth, .int .i64 x.rank]] ++ caps) W (BoolIs (p x) W)) :
  Calls Tryz.prog 94 #[.slice (some ⟨g, off, none⟩) fs.length cap, .func (.func G) #[] caps] w (LeftOv p g off fs w) := by
 have HF := Lib.hid (show ∀ (fs' : List OvD) (w' : World) (c : Nat), RowsAt w' 74 g off 3 (fs'.map ovRow) → fs'.length ≤ 1000000 → fs'.length ≤ c → Ovs w' lo (.slice (some ⟨g, off, none⟩) fs'.length c) fs' from fun fs' w' c h hn hc => by
  have := h.rows (cap := c) (by simpa using hn) hl (by simpa using hc)
  simpa [Ovs] using this)
 have Hp := Lib.hid hp
 have C := Lib.hid (indexOv_calls G caps p lo _ fs w (HF.out fs w cap hv hn hcap) eg fun W f hb => Hp.out W f (gb_below hb _))
 clear hp
 obtain ⟨n, hnn⟩ : ∃ n, fs.length = n := ⟨_, rfl⟩
 have HN := Lib.hid hnn
 rw [hnn] at hn hcap C ⊢
 clear hnn
 go_enter Tryz.func94, Tryz.ntmps94
 go_wp2_with fail
 refine C.out.mono ?_
 rintro e w1 ⟨he, hb1⟩
 rcases he with ⟨rfl, hnone⟩ | ⟨i, f0, rfl, hf0, hpf0, h0⟩
 ·have Hall := Lib.hid (show (fs.filter fun f => !p f) = fs from List.filter_eq_self.2 fun f hf => by rw [hnone f hf]; rfl)
  clear hnone C; go_wp2_with fail
  go_ret
  refine ⟨cap, by rw [Hall.out, HN.out]; rfl, ?_, by rw [Hall.out, HN.out]; exact hcap, gb_below hb1 _⟩
  rw [Hall.out]; exact hv.below hb1
 ·have hi : i < n := by rw [← HN.out]; exact (List.getElem?_eq_some_iff.1 hf0).1
  have Hstart := Lib.hid (filter_takeG hf0 hpf0 h0); have hne : ((i : Int) == -1) = false := by rw [beq_eq_false_iff_ne]; omega
  have hv1 := hv.below hb1; clear hf0 hpf0 h0 C hv; go_wp2_with fail
  go_loopw [5, 6] (fun a b wr => ∃ (i j : Nat) (fs' : List OvD), i < j ∧ j ≤ n ∧ a = .int .i64 i ∧ b = .int .i64 j ∧ fs'.length = n ∧ RowsAt wr 74 g off 3 (fs'.map ovRow) ∧ w.grownBy wr (some g) ∧ Hid (fs'.take i = (fs.take j).filter fun f => !p f) ∧ Hid (∀ t, j ≤ t → fs'[t]? = fs[t]?)) (fun _ b _ => n - (intOf b).toNat)
  case atStart => exact ⟨i, i + 1, fs, by omega, by omega, rfl, by go_num, HN.out, hv1, gb_below hb1 _, Lib.hid Hstart.out.symm, Lib.hid fun _ _ => rfl⟩
  case round =>
   clear hv1; obtain ⟨i, j, fs', hij, hj, rfl, rfl, hlen, hr, hgw, HT, HE⟩ := hrel; by_cases hlt : j < n
   ·obtain ⟨f, hf⟩ : ∃ f, fs'[j]? = some f := ⟨_, List.getElem?_eq_getElem (show j < fs'.length by omega)⟩
    obtain ⟨fi, hfi⟩ : ∃ f, fs'[i]? = some f := ⟨_, List.getElem?_eq_getElem (show i < fs'.length by omega)⟩
    have hf' : fs[j]? = some f := by rw [← HE.out j (Nat.le_refl _)]; exact hf
    have Hsn := Lib.hid (filter_snocG (fun f => !p f) hf')
    have Hfi := Lib.hid hfi; obtain ⟨a0, a1, a2⟩ := ov_cells hr hf; have hgW := gb_trans hgw (gb_alloc wr (.cells #[.string f.player, .int .i64 f.worth, .int .i64 f.rank] 74) (some g)); clear hf hf' hfi; go_wp2_with fail
    refine (Hp.out _ f hgW).mono ?_; rintro e w2 ⟨rfl, hb2⟩; have hr2 := (hr.below (below_alloc wr (.cells #[.string f.player, .int .i64 f.worth, .int .i64 f.rank] 74))).below hb2; have hgW2 := gb_trans hgW (gb_below hb2 (some g)); cases hpf : p f
    ·have d0 : w2.cell? ⟨wr.heap.size, 0, none⟩ = some (.string f.player) := below_cell hb2 (by rw [World.cell?_alloc_at _ _ _ _ rfl]; rfl)
     have d1 : w2.cell? ⟨wr.heap.size, 1, none⟩ = some (.int .i64 f.worth) := below_cell hb2 (by rw [World.cell?_alloc_at _ _ _ _ rfl]; rfl)
     have d2 : w2.cell? ⟨wr.heap.size, 2, none⟩ = some (.int .i64 f.rank) := below_cell hb2 (by rw [World.cell?_alloc_at _ _ _ _ rfl]; rfl)
     obtain ⟨p0, p1, p2⟩ := ov_cells hr2 Hfi.out; have f0 := fun o => hr2.free o
     have hgz : g ≠ wr.heap.size := by have := hr.lt; omega
     have HT' : Hid ((fs'.set i f).take (i + 1) = (fs.take (j + 1)).filter (fun f => !p f)) := Lib.hid (by
      have hil : i < fs'.length := by omega
      rw [Hsn.out, hpf, ← HT.out, List.take_succ_eq_append_getElem (by simpa using hil)]
      simp [List.take_set_of_le])
     have HE' : Hid (∀ t, j + 1 ≤ t → (fs'.set i f)[t]? = fs[t]?) := Lib.hid fun t ht => by
      rw [List.getElem?_set_ne (by omega)]; exact HE.out t (by omega)
     have hset := Lib.hid (ov_set hr2 Hfi.out f); have hgs := Lib.hid (gb_trans hgW2 (gb_setOv w2 g (off + i * 3) (.string f.player) (.int .i64 f.worth) (.int .i64 f.rank))); have hw4 : (i : Int) < (n : Int) := by omega
     clear hpf a0 a1 a2 hb2 hgW hgW2 hgw hr hr2; go_wp2_with fail
     go_roundw
     case rel => exact ⟨i + 1, j + 1, fs'.set i f, by omega, by omega, by go_num, by go_num, by simpa using hlen, hset.out, hgs.out, HT', HE'⟩
     case measure => simp [intOf]; omega
    ·have HT' : Hid (fs'.take i = (fs.take (j + 1)).filter (fun f => !p f)) := Lib.hid (by rw [Hsn.out, hpf, ← HT.out]; simp)
     have HE' : Hid (∀ t, j + 1 ≤ t → fs'[t]? = fs[t]?) := Lib.hid fun t ht => HE.out t (by omega)
     clear hpf; go_wp2_with fail
     go_roundw
     case rel => exact ⟨i, j + 1, fs', by omega, by omega, rfl, by go_num, hlen, hr2, hgW2, HT', HE'⟩
     case measure => simp [intOf]; omega
   ·obtain rfl : j = n := by omega
    have Hfin := Lib.hid (show fs'.take i = fs.filter (fun f => !p f) by rw [HT.out, ← HN.out, List.take_length])
    obtain ⟨w4, hrun, hr4, hg4⟩ := run_clear_rows (P := Tryz.prog) (t := 62) (ty := 0) (sz := 3) (i := i) (n := j - i) (cap := cap - i) Tryz.underlying62 zero_Ov rfl (by simp [Value.cells, Value.oneCell']) hr (by simp; omega) (by decide)
    have Hr4 := Lib.hid hr4; have Hg4 := Lib.hid hg4; clear hr4 hg4 hr; go_wp2_with fail
    go_ret
    have h5 := Hr4.out; rw [← List.map_take] at h5
    have e : (fs'.take i).length = i := by simp; omega
    rw [Hfin.out] at h5 e
    exact ⟨cap, by rw [e]; rfl, h5, by omega, gb_trans hgw Hg4.out⟩
set_option maxRecDepth 100000 in
set_option maxHeartbeats 4000000 in
theorem deleteOv0_calls (G : Nat) (caps : Array Value) (p : OvD → Bool) (w : World) (eg : ∀ args w, (callFunc G args).run Tryz.prog w = .ok (.enter G args) w)
  (hp : ∀ (W : World) (x : OvD), Below w.heap.size w W → Calls Tryz.prog G (#[.agg #[.string x.player, .int .i64 x.worth, .int .i64 x.rank]] ++ caps) W (BoolIs (p x) W)) :
  Calls Tryz.prog 94 #[.slice none 0 0, .func (.func G) #[] caps] w fun e w' => e = .returned (.slice none 0 0) ∧ Below w.heap.size w w' := by
 have C := Lib.hid (indexOv_calls G caps p 0 (.slice none 0 0) [] w ⟨by simp, by simp, .inl ⟨rfl, rfl⟩⟩ eg hp)
 clear hp
 go_enter Tryz.func94, Tryz.ntmps94
 go_wp2_with fail
 refine C.out.mono ?_
 rintro e w1 ⟨he, hb1⟩
 rcases he with ⟨rfl, _⟩ | ⟨i, f0, rfl, hf0, _⟩
 ·go_wp2_with fail
  go_ret
  exact ⟨rfl, hb1⟩
 ·simp at hf0
/-- Are two rows one? -/
def oveq (a b : OvD) : Bool := beqS a.player b.player && decide (a.worth = b.worth) && decide (a.rank = b.rank)
theorem oveq_iff {a b : OvD} : oveq a b = true ↔ a = b := by
 unfold oveq
 cases a; cases b
 simp only [Bool.and_eq_true, beqS_iff, decide_eq_true_eq, beq_iff_eq, OvD.mk.injEq, and_assoc]
instance : DecidableEq OvD := fun a b => decidable_of_iff (oveq a b = true) oveq_iff
theorem run_neqOv (a b : OvD) (w : World) : (binOp .neq 74 (.agg #[.string a.player, .int .i64 a.worth, .int .i64 a.rank]) (.agg #[.string b.player, .int .i64 b.worth, .int .i64 b.rank])).run Tryz.prog w = .ok (.bool (!oveq a b)) w := by
 have hS : Tryz.prog.underlying 74 = some (.struct (Tryz.prog.fieldsOf 74)) := by kernel_rfl
 have hp : Tryz.prog.stoodInHeld 74 = false := by kernel_rfl
 have us := Tryz.underlying9
 have ui := Tryz.underlying3
 have ub := Tryz.underlying4
 rw [run_neq_struct, show (10000 : Nat) = 9999 + 1 from rfl, run_equalIn_agg w 9999 74 _ _ hS hp]
 simp only [Program.fieldsOf, Tryz.underlying74]
 go_simp
 unfold oveq beqS
 cases h0 : a.player.toList == b.player.toList <;> by_cases h1 : a.worth = b.worth <;> by_cases h2 : a.rank = b.rank <;> simp_all
theorem eqGuardOv (x y : Operand) (xs ys : Array Value) (w : World) : (eqGuard .neq 74 x y (.agg xs) (.agg ys)).run Tryz.prog w = .ok () w := run_eqGuard_agg w .neq 74 x y xs ys (by kernel_rfl)
set_option maxRecDepth 100000 in
set_option maxHeartbeats 4000000 in
theorem equalOv_calls (lo lo' : Nat) (v v' : Value) (xs ys : List OvD) (w : World) (hv : Ovs w lo v xs) (hv' : Ovs w lo' v' ys) (ha : xs.length ≤ 1000000) (hb : ys.length ≤ 1000000) :
  Calls Tryz.prog 39 #[v, v'] w (BoolIs (decide (xs = ys)) w) := by
 obtain ⟨xa, xc, rfl⟩ := ov_shape hv
 obtain ⟨ya, yc, rfl⟩ := ov_shape hv'
 by_cases hl : xs.length = ys.length
 ·have HD := Lib.hid (show ∀ (i : Nat) (a b : OvD), xs[i]? = some a → ys[i]? = some b → oveq a b = false → decide (xs = ys) = false from fun i a b h1 h2 h3 => by
   refine decide_eq_false fun e => ?_
   rw [e, h2] at h1
   cases h1
   rw [oveq_iff.2 rfl] at h3; cases h3)
  have HT := Lib.hid (show (∀ (i : Nat) (a b : OvD), i < xs.length → xs[i]? = some a → ys[i]? = some b → oveq a b = true) → decide (xs = ys) = true from fun h => by
   refine decide_eq_true (List.ext_getElem? fun i => ?_)
   by_cases hi : i < xs.length
   ·rw [List.getElem?_eq_getElem hi, List.getElem?_eq_getElem (show i < ys.length by omega)]
    exact congrArg some (oveq_iff.1 (h i _ _ hi (List.getElem?_eq_getElem hi) (List.getElem?_eq_getElem _)))
   ·rw [List.getElem?_eq_none (by omega), List.getElem?_eq_none (by omega)])
  generalize decide (xs = ys) = R at HD HT ⊢
  have Hc : Hid (∀ (i : Nat) (a b : OvD), xs[i]? = some a → ys[i]? = some b → ∃ g off g' off', xa = some ⟨g, off, none⟩ ∧ ya = some ⟨g', off', none⟩ ∧
    (w.cell? ⟨g, off + i * 3, none⟩ = some (.string a.player) ∧ w.cell? ⟨g, off + i * 3 + 1, none⟩ = some (.int .i64 a.worth) ∧ w.cell? ⟨g, off + i * 3 + 2, none⟩ = some (.int .i64 a.rank)) ∧
    (w.cell? ⟨g', off' + i * 3, none⟩ = some (.string b.player) ∧ w.cell? ⟨g', off' + i * 3 + 1, none⟩ = some (.int .i64 b.worth) ∧ w.cell? ⟨g', off' + i * 3 + 2, none⟩ = some (.int .i64 b.rank))) := Lib.hid fun i a b h1 h2 => by
   rcases ov_at hv with ⟨_, rfl⟩ | ⟨g, off, cap, e1, _, _, _, hc⟩
   ·simp at h1
   ·rcases ov_at hv' with ⟨_, rfl⟩ | ⟨g', off', cap', e2, _, _, _, hc'⟩
    ·simp at h2
    ·simp only [Value.slice.injEq] at e1 e2
     exact ⟨g, off, g', off', e1.1, e2.1, hc i a h1, hc' i b h2⟩
  obtain ⟨n, hn⟩ : ∃ n, xs.length = n := ⟨_, rfl⟩
  have hn' : ys.length = n := by omega
  have HN := Lib.hid hn; have HN' := Lib.hid hn'
  rw [hn, hn']; rw [hn] at ha
  clear hv hv' hl hn hn' hb; have e1 : ((n : Int) != (n : Int)) = false := by simp
  go_enter Tryz.func39, Tryz.ntmps39; go_wp2_with fail
  go_loopw [13] (fun i wr => ∃ k : Nat, k ≤ n ∧ i = .int .i64 k ∧ Hid (∀ (i : Nat) (a b : OvD), i < k → xs[i]? = some a → ys[i]? = some b → oveq a b = true) ∧ Below w.heap.size w wr) (fun i _ => n - (intOf i).toNat)
  case atStart => exact ⟨0, Nat.zero_le _, rfl, Lib.hid fun i _ _ h => by omega, Below.refl _ _⟩
  case round =>
   obtain ⟨k, hk, rfl, H0, hb⟩ := hrel; by_cases hlt : k < n
   ·obtain ⟨a, hai⟩ : ∃ a, xs[k]? = some a := ⟨_, List.getElem?_eq_getElem (show k < xs.length by have := HN.out; omega)⟩
    obtain ⟨b, hbi⟩ : ∃ b, ys[k]? = some b := ⟨_, List.getElem?_eq_getElem (show k < ys.length by have := HN'.out; omega)⟩
    obtain ⟨g, off, g', off', rfl, rfl, ⟨p0, p1, p2⟩, q0, q1, q2⟩ := Hc.out k a b hai hbi
    have a0 := below_cell hb p0; have b0 := below_cell hb q0; have a1 := below_cell hb p1; have b1 := below_cell hb q1; have a2 := below_cell hb p2; have b2 := below_cell hb q2; have w3 : (k : Int) < (n : Int) := by omega
    have hne := run_neqOv a b; have hgd := eqGuardOv; have Ha := Lib.hid hai; have Hb := Lib.hid hbi; clear hai hbi p0 p1 p2 q0 q1 q2; cases hf : oveq a b
    ·rw [hf] at hne
     have Hf := Lib.hid hf; clear hf; go_wp2_with fail
     go_quiet (fail)
     go_wp2_with fail
     go_ret
     exact ⟨ret_bool (HD.out k a b Ha.out Hb.out Hf.out).symm, below_drewNG hb _⟩
    ·rw [hf] at hne
     have H1 : Hid (∀ (i : Nat) (a b : OvD), i < k + 1 → xs[i]? = some a → ys[i]? = some b → oveq a b = true) := Lib.hid fun i x y hi hx hy => by
      rcases Nat.lt_succ_iff_lt_or_eq.1 hi with h | rfl
      ·exact H0.out i x y h hx hy
      ·rw [Ha.out] at hx; rw [Hb.out] at hy; cases hx; cases hy; exact hf
     clear hf; go_wp2_with fail
     go_quiet (fail)
     go_wp2_with fail
     go_roundw
     case rel => exact ⟨k + 1, by omega, by go_num, H1, below_drewNG hb _⟩
     case measure => simp [intOf]; omega
   ·obtain rfl : k = n := by omega
    go_wp2_with fail
    go_ret
    exact ⟨ret_bool (HT.out fun i a b hi => H0.out i a b (by rw [← HN.out]; exact hi)).symm, hb⟩
 ·have HR := Lib.hid (show decide (xs = ys) = false from decide_eq_false fun e => hl (by rw [e]))
  have e1 : ((xs.length : Int) != (ys.length : Int)) = true := by simp; omega
  have hl' : ¬ xs.length = ys.length := hl
  clear hv hv' hl; go_enter Tryz.func39, Tryz.ntmps39; go_wp2_with fail
  go_ret
  exact ⟨ret_bool HR.out.symm, Below.refl _ _⟩
end Go.Proofs.YtddnnjblpgfjeaaGreatDoor
/- Rows of api.Asset: memory, copies, searches, what is struck out, equality. -/
namespace Go.Proofs.YtddnnjblpgfjeaaGreatDoor
open Go.RowKit

def asRow (x : AsD) : List Value := [.string x.player, .string x.pos, .int .i64 x.value]
/-- A slice of such rows. -/
def Ass (w : World) (lo : Nat) (v : Value) (xs : List AsD) : Prop := Rows w 78 lo 3 v (xs.map asRow)
theorem Ass.below {w w' : World} {lo : Nat} {v : Value} {xs : List AsD} (h : Ass w lo v xs) (hb : Below w.heap.size w w') : Ass w' lo v xs := Rows.below h hb
theorem Ass.other {w w' : World} {lo B : Nat} {v : Value} {xs : List AsD} (h : Ass w lo v xs) (hg : w.grownBy w' (some B)) (hB : B < lo) : Ass w' lo v xs := Rows.other h hg hB
theorem Ass.mono {w : World} {lo lo' : Nat} {v : Value} {xs : List AsD} (h : Ass w lo v xs) (hl : lo' ≤ lo) : Ass w lo' v xs := Rows.mono h hl
theorem as_at {w : World} {lo : Nat} {v : Value} {xs : List AsD} (h : Ass w lo v xs) :
  (v = .slice none 0 0 ∧ xs = []) ∨ ∃ g off cap, v = .slice (some ⟨g, off, none⟩) xs.length cap ∧ lo ≤ g ∧ g < w.heap.size ∧ xs.length ≤ 1000000 ∧
   ∀ (i : Nat) (x : AsD), xs[i]? = some x → w.cell? ⟨g, off + i * 3, none⟩ = some (.string x.player) ∧ w.cell? ⟨g, off + i * 3 + 1, none⟩ = some (.string x.pos) ∧ w.cell? ⟨g, off + i * 3 + 2, none⟩ = some (.int .i64 x.value) := by
 rcases rows_at h with ⟨e1, e2⟩ | ⟨g, off, cap, e1, e2, e3, hc⟩
 ·exact .inl ⟨e1, by simpa using e2⟩
 ·refine .inr ⟨g, off, cap, by simpa using e1, e2, e3, by simpa using h.small, fun i x hx => ?_⟩
  have hr : (xs.map asRow)[i]?.getD [] = asRow x := by simp [hx]
  exact ⟨hc i 0 _ (by rw [hr]; rfl), hc i 1 _ (by rw [hr]; rfl), hc i 2 _ (by rw [hr]; rfl)⟩
theorem as_shape {w : World} {lo : Nat} {v : Value} {xs : List AsD} (h : Ass w lo v xs) : ∃ a c, v = .slice a xs.length c := by
 rcases as_at h with ⟨rfl, rfl⟩ | ⟨g, off, cap, rfl, _⟩
 ·exact ⟨none, 0, rfl⟩
 ·exact ⟨_, _, rfl⟩
theorem as_each (xs : List AsD) : ∀ r ∈ xs.map asRow, r.length = 3 := by
 intro r hr
 obtain ⟨x, _, rfl⟩ := List.mem_map.1 hr
 rfl
/-- Rows that the call made itself. -/
def OwnAs (w : World) (base : Nat) (v : Value) (xs : List AsD) : Prop := w.ownsRow base 78 3 v xs.length (xs.map asRow).flatten
theorem as_flat (xs : List AsD) : (xs.map asRow).flatten.length = xs.length * 3 := by
 induction xs with
 | nil => rfl
 | cons f fs ih => simp only [List.map_cons, List.flatten_cons, List.length_append, ih, List.length_cons, asRow, List.length_nil]; omega
theorem info_As : (Tryz.prog.info? 78).map (fun i => (i.zero, i.size, i.bytes)) = some (some (.agg #[.string ⟨#[]⟩, .string ⟨#[]⟩, .int .i64 0]), 3, 40) := by kernel_rfl
theorem zero_As (w : World) : (zeroValue 78).run Tryz.prog w = .ok (.agg #[.string ⟨#[]⟩, .string ⟨#[]⟩, .int .i64 0]) w := by kernel_rfl
theorem as_cells {w : World} {g off i : Nat} {xs : List AsD} {x : AsD} (h : RowsAt w 78 g off 3 (xs.map asRow)) (hx : xs[i]? = some x) : w.cell? ⟨g, off + i * 3, none⟩ = some (.string x.player) ∧ w.cell? ⟨g, off + i * 3 + 1, none⟩ = some (.string x.pos) ∧ w.cell? ⟨g, off + i * 3 + 2, none⟩ = some (.int .i64 x.value) := by
 have hr : (xs.map asRow)[i]? = some (asRow x) := by simp [hx]
 exact ⟨h.cell hr (j := 0) rfl, h.cell hr (j := 1) rfl, h.cell hr (j := 2) rfl⟩
theorem as_set {w : World} {g off i : Nat} {xs : List AsD} {x0 : AsD} (h : RowsAt w 78 g off 3 (xs.map asRow)) (hi : xs[i]? = some x0) (x : AsD) :
  RowsAt (((w.setCell ⟨g, off + i * 3, none⟩ (.string x.player)).setCell ⟨g, off + i * 3 + 1, none⟩ (.string x.pos)).setCell ⟨g, off + i * 3 + 2, none⟩ (.int .i64 x.value)) 78 g off 3 ((xs.set i x).map asRow) := by
 have hlt : i < (xs.map asRow).length := by simpa using (List.getElem?_eq_some_iff.1 hi).1
 have r0 := h.set (show (xs.map asRow)[i]? = some (asRow x0) by simp [hi]) (show 0 < 3 by omega) (.string x.player)
 have r1 := r0.set (List.getElem?_set_self hlt) (show 1 < 3 by omega) (.string x.pos)
 rw [List.set_set] at r1
 have r2 := r1.set (List.getElem?_set_self hlt) (show 2 < 3 by omega) (.int .i64 x.value)
 rw [List.set_set] at r2
 rw [List.map_set]; exact r2
theorem gb_setAs (w : World) (g off : Nat) (a0 a1 a2 : Value) : w.grownBy (((w.setCell ⟨g, off, none⟩ a0).setCell ⟨g, off + 1, none⟩ a1).setCell ⟨g, off + 2, none⟩ a2) (some g) :=
 gb_trans (gb_setCell _ _ _ _) (gb_trans (gb_setCell _ _ _ _) (gb_setCell _ _ _ _))
set_option maxRecDepth 100000 in
set_option maxHeartbeats 4000000 in
theorem cloneAs_calls (lo : Nat) (v : Value) (xs : List AsD) (w : World) (hv : Ass w lo v xs) :
  Calls Tryz.prog 108 #[v] w fun e w' => ∃ v', OwnAs w' w.heap.size v' xs ∧ e = .returned v' ∧ Below w.heap.size w w' := by
 obtain ⟨i0, hi, hz0, hz1, hz2⟩ := info_parts info_As
 have hnil := fun a n c => Lib.run_eql_slice_nil (P := Tryz.prog) w 52 78 a n c 0 0 Tryz.underlying52
 rcases hv.shape with ⟨rfl, h0⟩ | ⟨g, off, cap, cur, fr, rfl, hlc, hg, hc⟩
 ·obtain rfl : xs = [] := by simpa using h0
  clear hv hi hz0 hz1 hz2; go_enter Tryz.func108, Tryz.ntmps108; go_wp2_with fail
  go_ret
  exact ⟨_, World.ownsRow_nil _ _ _ _, rfl, Below.refl _ _⟩
 ·clear hlc
  have hn := hv.small; simp only [List.length_map] at hn
  have hgl := lt_of_heap hg; have hfl := as_flat xs
  have hflat : ∀ j u, (xs.map asRow).flatten[j]? = some u → cur[off + j]? = some u := by
   intro j u hu; have hj : j < xs.length * 3 := by rw [← hfl]; exact (List.getElem?_eq_some_iff.1 hu).1
   have hq : j / 3 < xs.length := by omega
   obtain ⟨f, hf⟩ : ∃ f, xs[j / 3]? = some f := ⟨_, List.getElem?_eq_getElem hq⟩
   have h1 : ((xs.map asRow)[j / 3]?.getD [])[j % 3]? = (asRow f)[j % 3]? := by simp [hf]
   obtain ⟨u', hu'⟩ : ∃ u', (asRow f)[j % 3]? = some u' := ⟨_, List.getElem?_eq_getElem (show j % 3 < (asRow f).length by simp [asRow]; omega)⟩
   have h2 := flat_at (sz := 3) (xs.map asRow) (as_each xs) (j / 3) (j % 3) u' (by rw [h1]; exact hu')
   rw [show j / 3 * 3 + j % 3 = j by omega, hu] at h2
   cases h2
   have h3 := hc (j / 3) (j % 3) u (by rw [h1]; exact hu')
   rwa [show off + j / 3 * 3 + j % 3 = off + j by omega] at h3
  have hown : OwnAs (w.alloc (.cells #[] 78)) w.heap.size (.slice (some ⟨w.heap.size, 0, none⟩) 0 0) [] := World.ownsRow_made w #[] 0 (Nat.le_refl _) (by unfold maxLen; omega) rfl
  have hnews : ∀ j u, (xs.map asRow).flatten[j]? = some u → (w.alloc (.cells #[] 78)).cell? ((⟨g, off, none⟩ : Addr).add j) = some u := by
   intro j u hu; have hadd : (⟨g, off, none⟩ : Addr).add j = ⟨g, off + j, none⟩ := by unfold Addr.add; split <;> simp_all
   rw [hadd, World.cell?_alloc_past _ _ _ hgl, cell_of_row w g _ cur _ fr hg]; exact hflat j u hu
  have Hn := Lib.hid hnews; have Hl := Lib.hid hfl; clear hnews hc hflat hfl hg hv; simp only [List.length_map]; go_enter Tryz.func108, Tryz.ntmps108; go_wp2_with (at_builtin; refine wpList_append_own _ rfl _ _ 52 rfl w.heap.size 78 i0 (.agg #[.string ⟨#[]⟩, .string ⟨#[]⟩, .int .i64 0]) 3 40 Tryz.underlying52 hi hz0 hz1 hz2 rfl (by decide) _ 0 _ rfl hown ⟨g, off, none⟩ xs.length cap _ rfl Hl.out ?c1 ?c2 ?c3 ?c4 ?c5 ?_)
  case c1 => exact Hn.out
  case c2 =>
   intro u hu; obtain ⟨r, hr, hur⟩ := List.mem_flatten.1 hu; obtain ⟨f, _, rfl⟩ := List.mem_map.1 hr; simp only [asRow, List.mem_cons, List.not_mem_nil, or_false] at hur
   rcases hur with rfl | rfl | rfl <;> rfl
  case c3 => unfold maxLen; omega
  case c4 => omega
  case c5 => simp
  intro v' w4 hown4 hgrow _; go_wp2_with fail
  go_ret
  refine ⟨_, ?_, rfl, (below_alloc w _).grown hgrow (by simp) fun r hr => (own_block hown r hr).1⟩
  unfold OwnAs; simpa using hown4
/-- What a look for the first one gives. -/
def IdxFirstAs (p : AsD → Bool) (xs : List AsD) (w : World) (e : Ending) (w' : World) : Prop :=
 ((e = .returned (.int .i64 (-1)) ∧ ∀ x ∈ xs, p x = false) ∨ ∃ i x, e = .returned (.int .i64 ((i : Nat) : Int)) ∧ xs[i]? = some x ∧ p x = true ∧ ∀ j y, j < i → xs[j]? = some y → p y = false) ∧ Below w.heap.size w w'
set_option maxRecDepth 100000 in
set_option maxHeartbeats 4000000 in
theorem indexAs_calls (G : Nat) (caps : Array Value) (p : AsD → Bool) (lo : Nat) (v : Value) (xs : List AsD) (w : World) (hv : Ass w lo v xs) (eg : ∀ args w, (callFunc G args).run Tryz.prog w = .ok (.enter G args) w)
  (hp : ∀ (W : World) (x : AsD), Below w.heap.size w W → Calls Tryz.prog G (#[.agg #[.string x.player, .string x.pos, .int .i64 x.value]] ++ caps) W (BoolIs (p x) W)) :
  Calls Tryz.prog 150 #[v, .func (.func G) #[] caps] w (IdxFirstAs p xs w) := by
 have Hp := Lib.hid hp
 clear hp
 rcases as_at hv with ⟨rfl, rfl⟩ | ⟨gg, off, cap, rfl, hlo, hg, hn, hcell⟩
 ·clear hv
  go_enter Tryz.func150, Tryz.ntmps150; go_wp2_with fail
  refine wp_loop_rounds 1 ?_; rw [rounds_succ]; go_wp2_with fail
  go_ret
  exact ⟨.inl ⟨rfl, by simp⟩, Below.refl _ _⟩
 ·have Hc := Lib.hid hcell
  clear hv hcell; go_enter Tryz.func150, Tryz.ntmps150; go_wp2_with fail
  go_loopw [8] (fun i wr => ∃ k : Nat, k ≤ xs.length ∧ i = .int .i64 k ∧ Hid (∀ j y, j < k → xs[j]? = some y → p y = false) ∧ Below w.heap.size w wr) (fun i _ => xs.length - (intOf i).toNat)
  case atStart => exact ⟨0, Nat.zero_le _, rfl, Lib.hid fun _ _ h => by omega, Below.refl _ _⟩
  case round =>
   obtain ⟨k, hk, rfl, H0, hb⟩ := hrel; by_cases hlt : k < xs.length
   ·obtain ⟨f, hf⟩ : ∃ f, xs[k]? = some f := ⟨xs[k], List.getElem?_eq_getElem hlt⟩
    obtain ⟨q0, q1, q2⟩ := Hc.out k f hf; have g0 := below_cell hb q0; have g1 := below_cell hb q1; have g2 := below_cell hb q2; have Hf := Lib.hid hf; clear hf q0 q1 q2; go_wp2_with fail
    refine (Hp.out _ f hb).mono ?_; rintro e w1 ⟨rfl, hb1⟩; have hb2 := below_step hb hb1; clear g0 g1 g2; cases hpf : p f
    ·have H1 : Hid (∀ j y, j < k + 1 → xs[j]? = some y → p y = false) := Lib.hid fun j y hj hy => by
      rcases Nat.lt_succ_iff_lt_or_eq.1 hj with h | rfl
      ·exact H0.out j y h hy
      ·rw [Hf.out] at hy; cases hy; exact hpf
     clear hpf; go_wp2_with fail
     go_roundw
     case rel => exact ⟨k + 1, by omega, by go_num, H1, hb2⟩
     case measure => simp [intOf]; omega
    ·have Hq := Lib.hid hpf
     clear hpf; go_wp2_with fail
     go_ret
     exact ⟨.inr ⟨k, f, rfl, Hf.out, Hq.out, H0.out⟩, hb2⟩
   ·obtain rfl : k = xs.length := by omega
    go_wp2_with fail
    go_ret
    refine ⟨.inl ⟨rfl, fun f hf => ?_⟩, hb⟩
    obtain ⟨i, hi⟩ := List.getElem?_of_mem hf; exact H0.out i f (List.getElem?_eq_some_iff.1 hi).1 hi
/-- What striking some out leaves. -/
def LeftAs (p : AsD → Bool) (g off : Nat) (xs : List AsD) (w : World) (e : Ending) (w' : World) : Prop := ∃ c, e = .returned (.slice (some ⟨g, off, none⟩) (xs.filter fun x => !p x).length c) ∧ RowsAt w' 78 g off 3 ((xs.filter fun x => !p x).map asRow) ∧ (xs.filter fun x => !p x).length ≤ c ∧ w.grownBy w' (some g)
set_option maxRecDepth 100000 in
set_option maxHeartbeats 4000000 in
theorem deleteAs_calls (G : Nat) (caps : Array Value) (p : AsD → Bool) (lo g off cap : Nat) (fs : List AsD) (w : World) (hv : RowsAt w 78 g off 3 (fs.map asRow)) (hn : fs.length ≤ 1000000) (hcap : fs.length ≤ cap) (hl : lo ≤ g) (eg : ∀ args w, (callFunc G args).run Tryz.prog w = .ok (.enter G args) w)
  (hp : ∀ (W : World) (x : AsD), w.grownBy W (some g) → Calls Tryz.prog G (#[.agg #[.string x.player, .string x.pos, .int .i64 x.value]] ++ caps) W (BoolIs (p x) W)) :
  Calls Tryz.prog 153 #[.slice (some ⟨g, off, none⟩) fs.length cap, .func (.func G) #[] caps] w (LeftAs p g off fs w) := by
 have HF := Lib.hid (show ∀ (fs' : List AsD) (w' : World) (c : Nat), RowsAt w' 78 g off 3 (fs'.map asRow) → fs'.length ≤ 1000000 → fs'.length ≤ c → Ass w' lo (.slice (some ⟨g, off, none⟩) fs'.length c) fs' from fun fs' w' c h hn hc => by
  have := h.rows (cap := c) (by simpa using hn) hl (by simpa using hc)
  simpa [Ass] using this)
 have Hp := Lib.hid hp
 have C := Lib.hid (indexAs_calls G caps p lo _ fs w (HF.out fs w cap hv hn hcap) eg fun W f hb => Hp.out W f (gb_below hb _))
 clear hp
 obtain ⟨n, hnn⟩ : ∃ n, fs.length = n := ⟨_, rfl⟩
 have HN := Lib.hid hnn
 rw [hnn] at hn hcap C ⊢
 clear hnn
 go_enter Tryz.func153, Tryz.ntmps153
 go_wp2_with fail
 refine C.out.mono ?_
 rintro e w1 ⟨he, hb1⟩
 rcases he with ⟨rfl, hnone⟩ | ⟨i, f0, rfl, hf0, hpf0, h0⟩
 ·have Hall := Lib.hid (show (fs.filter fun f => !p f) = fs from List.filter_eq_self.2 fun f hf => by rw [hnone f hf]; rfl)
  clear hnone C; go_wp2_with fail
  go_ret
  refine ⟨cap, by rw [Hall.out, HN.out]; rfl, ?_, by rw [Hall.out, HN.out]; exact hcap, gb_below hb1 _⟩
  rw [Hall.out]; exact hv.below hb1
 ·have hi : i < n := by rw [← HN.out]; exact (List.getElem?_eq_some_iff.1 hf0).1
  have Hstart := Lib.hid (filter_takeG hf0 hpf0 h0); have hne : ((i : Int) == -1) = false := by rw [beq_eq_false_iff_ne]; omega
  have hv1 := hv.below hb1; clear hf0 hpf0 h0 C hv; go_wp2_with fail
  go_loopw [5, 6] (fun a b wr => ∃ (i j : Nat) (fs' : List AsD), i < j ∧ j ≤ n ∧ a = .int .i64 i ∧ b = .int .i64 j ∧ fs'.length = n ∧ RowsAt wr 78 g off 3 (fs'.map asRow) ∧ w.grownBy wr (some g) ∧ Hid (fs'.take i = (fs.take j).filter fun f => !p f) ∧ Hid (∀ t, j ≤ t → fs'[t]? = fs[t]?)) (fun _ b _ => n - (intOf b).toNat)
  case atStart => exact ⟨i, i + 1, fs, by omega, by omega, rfl, by go_num, HN.out, hv1, gb_below hb1 _, Lib.hid Hstart.out.symm, Lib.hid fun _ _ => rfl⟩
  case round =>
   clear hv1; obtain ⟨i, j, fs', hij, hj, rfl, rfl, hlen, hr, hgw, HT, HE⟩ := hrel; by_cases hlt : j < n
   ·obtain ⟨f, hf⟩ : ∃ f, fs'[j]? = some f := ⟨_, List.getElem?_eq_getElem (show j < fs'.length by omega)⟩
    obtain ⟨fi, hfi⟩ : ∃ f, fs'[i]? = some f := ⟨_, List.getElem?_eq_getElem (show i < fs'.length by omega)⟩
    have hf' : fs[j]? = some f := by rw [← HE.out j (Nat.le_refl _)]; exact hf
    have Hsn := Lib.hid (filter_snocG (fun f => !p f) hf')
    have Hfi := Lib.hid hfi; obtain ⟨a0, a1, a2⟩ := as_cells hr hf; have hgW := gb_trans hgw (gb_alloc wr (.cells #[.string f.player, .string f.pos, .int .i64 f.value] 78) (some g)); clear hf hf' hfi; go_wp2_with fail
    refine (Hp.out _ f hgW).mono ?_; rintro e w2 ⟨rfl, hb2⟩; have hr2 := (hr.below (below_alloc wr (.cells #[.string f.player, .string f.pos, .int .i64 f.value] 78))).below hb2; have hgW2 := gb_trans hgW (gb_below hb2 (some g)); cases hpf : p f
    ·have d0 : w2.cell? ⟨wr.heap.size, 0, none⟩ = some (.string f.player) := below_cell hb2 (by rw [World.cell?_alloc_at _ _ _ _ rfl]; rfl)
     have d1 : w2.cell? ⟨wr.heap.size, 1, none⟩ = some (.string f.pos) := below_cell hb2 (by rw [World.cell?_alloc_at _ _ _ _ rfl]; rfl)
     have d2 : w2.cell? ⟨wr.heap.size, 2, none⟩ = some (.int .i64 f.value) := below_cell hb2 (by rw [World.cell?_alloc_at _ _ _ _ rfl]; rfl)
     obtain ⟨p0, p1, p2⟩ := as_cells hr2 Hfi.out; have f0 := fun o => hr2.free o
     have hgz : g ≠ wr.heap.size := by have := hr.lt; omega
     have HT' : Hid ((fs'.set i f).take (i + 1) = (fs.take (j + 1)).filter (fun f => !p f)) := Lib.hid (by
      have hil : i < fs'.length := by omega
      rw [Hsn.out, hpf, ← HT.out, List.take_succ_eq_append_getElem (by simpa using hil)]
      simp [List.take_set_of_le])
     have HE' : Hid (∀ t, j + 1 ≤ t → (fs'.set i f)[t]? = fs[t]?) := Lib.hid fun t ht => by
      rw [List.getElem?_set_ne (by omega)]; exact HE.out t (by omega)
     have hset := Lib.hid (as_set hr2 Hfi.out f); have hgs := Lib.hid (gb_trans hgW2 (gb_setAs w2 g (off + i * 3) (.string f.player) (.string f.pos) (.int .i64 f.value))); have hw4 : (i : Int) < (n : Int) := by omega
     clear hpf a0 a1 a2 hb2 hgW hgW2 hgw hr hr2; go_wp2_with fail
     go_roundw
     case rel => exact ⟨i + 1, j + 1, fs'.set i f, by omega, by omega, by go_num, by go_num, by simpa using hlen, hset.out, hgs.out, HT', HE'⟩
     case measure => simp [intOf]; omega
    ·have HT' : Hid (fs'.take i = (fs.take (j + 1)).filter (fun f => !p f)) := Lib.hid (by rw [Hsn.out, hpf, ← HT.out]; simp)
     have HE' : Hid (∀ t, j + 1 ≤ t → fs'[t]? = fs[t]?) := Lib.hid fun t ht => HE.out t (by omega)
     clear hpf; go_wp2_with fail
     go_roundw
     case rel => exact ⟨i, j + 1, fs', by omega, by omega, rfl, by go_num, hlen, hr2, hgW2, HT', HE'⟩
     case measure => simp [intOf]; omega
   ·obtain rfl : j = n := by omega
    have Hfin := Lib.hid (show fs'.take i = fs.filter (fun f => !p f) by rw [HT.out, ← HN.out, List.take_length])
    obtain ⟨w4, hrun, hr4, hg4⟩ := run_clear_rows (P := Tryz.prog) (t := 52) (ty := 0) (sz := 3) (i := i) (n := j - i) (cap := cap - i) Tryz.underlying52 zero_As rfl (by simp [Value.cells, Value.oneCell']) hr (by simp; omega) (by decide)
    have Hr4 := Lib.hid hr4; have Hg4 := Lib.hid hg4; clear hr4 hg4 hr; go_wp2_with fail
    go_ret
    have h5 := Hr4.out; rw [← List.map_take] at h5
    have e : (fs'.take i).length = i := by simp; omega
    rw [Hfin.out] at h5 e
    exact ⟨cap, by rw [e]; rfl, h5, by omega, gb_trans hgw Hg4.out⟩
set_option maxRecDepth 100000 in
set_option maxHeartbeats 4000000 in
theorem deleteAs0_calls (G : Nat) (caps : Array Value) (p : AsD → Bool) (w : World) (eg : ∀ args w, (callFunc G args).run Tryz.prog w = .ok (.enter G args) w)
  (hp : ∀ (W : World) (x : AsD), Below w.heap.size w W → Calls Tryz.prog G (#[.agg #[.string x.player, .string x.pos, .int .i64 x.value]] ++ caps) W (BoolIs (p x) W)) :
  Calls Tryz.prog 153 #[.slice none 0 0, .func (.func G) #[] caps] w fun e w' => e = .returned (.slice none 0 0) ∧ Below w.heap.size w w' := by
 have C := Lib.hid (indexAs_calls G caps p 0 (.slice none 0 0) [] w ⟨by simp, by simp, .inl ⟨rfl, rfl⟩⟩ eg hp)
 clear hp
 go_enter Tryz.func153, Tryz.ntmps153
 go_wp2_with fail
 refine C.out.mono ?_
 rintro e w1 ⟨he, hb1⟩
 rcases he with ⟨rfl, _⟩ | ⟨i, f0, rfl, hf0, _⟩
 ·go_wp2_with fail
  go_ret
  exact ⟨rfl, hb1⟩
 ·simp at hf0
/-- Are two rows one? -/
def aseq (a b : AsD) : Bool := beqS a.player b.player && beqS a.pos b.pos && decide (a.value = b.value)
theorem aseq_iff {a b : AsD} : aseq a b = true ↔ a = b := by
 unfold aseq
 cases a; cases b
 simp only [Bool.and_eq_true, beqS_iff, decide_eq_true_eq, beq_iff_eq, AsD.mk.injEq, and_assoc]
instance : DecidableEq AsD := fun a b => decidable_of_iff (aseq a b = true) aseq_iff
end Go.Proofs.YtddnnjblpgfjeaaGreatDoor
/- Rows of api.Place: memory, copies, searches, what is struck out, equality. -/
namespace Go.Proofs.YtddnnjblpgfjeaaGreatDoor
open Go.RowKit

def plRow (x : PlD) : List Value := [.string x.pos, .int .i64 x.many]
/-- A slice of such rows. -/
def Pls (w : World) (lo : Nat) (v : Value) (xs : List PlD) : Prop := Rows w 125 lo 2 v (xs.map plRow)
theorem Pls.below {w w' : World} {lo : Nat} {v : Value} {xs : List PlD} (h : Pls w lo v xs) (hb : Below w.heap.size w w') : Pls w' lo v xs := Rows.below h hb
theorem Pls.other {w w' : World} {lo B : Nat} {v : Value} {xs : List PlD} (h : Pls w lo v xs) (hg : w.grownBy w' (some B)) (hB : B < lo) : Pls w' lo v xs := Rows.other h hg hB
theorem Pls.mono {w : World} {lo lo' : Nat} {v : Value} {xs : List PlD} (h : Pls w lo v xs) (hl : lo' ≤ lo) : Pls w lo' v xs := Rows.mono h hl
theorem pl_at {w : World} {lo : Nat} {v : Value} {xs : List PlD} (h : Pls w lo v xs) :
  (v = .slice none 0 0 ∧ xs = []) ∨ ∃ g off cap, v = .slice (some ⟨g, off, none⟩) xs.length cap ∧ lo ≤ g ∧ g < w.heap.size ∧ xs.length ≤ 1000000 ∧
   ∀ (i : Nat) (x : PlD), xs[i]? = some x → w.cell? ⟨g, off + i * 2, none⟩ = some (.string x.pos) ∧ w.cell? ⟨g, off + i * 2 + 1, none⟩ = some (.int .i64 x.many) := by
 rcases rows_at h with ⟨e1, e2⟩ | ⟨g, off, cap, e1, e2, e3, hc⟩
 ·exact .inl ⟨e1, by simpa using e2⟩
 ·refine .inr ⟨g, off, cap, by simpa using e1, e2, e3, by simpa using h.small, fun i x hx => ?_⟩
  have hr : (xs.map plRow)[i]?.getD [] = plRow x := by simp [hx]
  exact ⟨hc i 0 _ (by rw [hr]; rfl), hc i 1 _ (by rw [hr]; rfl)⟩
theorem pl_shape {w : World} {lo : Nat} {v : Value} {xs : List PlD} (h : Pls w lo v xs) : ∃ a c, v = .slice a xs.length c := by
 rcases pl_at h with ⟨rfl, rfl⟩ | ⟨g, off, cap, rfl, _⟩
 ·exact ⟨none, 0, rfl⟩
 ·exact ⟨_, _, rfl⟩
theorem pl_each (xs : List PlD) : ∀ r ∈ xs.map plRow, r.length = 2 := by
 intro r hr
 obtain ⟨x, _, rfl⟩ := List.mem_map.1 hr
 rfl
/-- Rows that the call made itself. -/
def OwnPl (w : World) (base : Nat) (v : Value) (xs : List PlD) : Prop := w.ownsRow base 125 2 v xs.length (xs.map plRow).flatten
theorem info_Pl : (Tryz.prog.info? 125).map (fun i => (i.zero, i.size, i.bytes)) = some (some (.agg #[.string ⟨#[]⟩, .int .i64 0]), 2, 24) := by kernel_rfl
theorem pl_cells {w : World} {g off i : Nat} {xs : List PlD} {x : PlD} (h : RowsAt w 125 g off 2 (xs.map plRow)) (hx : xs[i]? = some x) : w.cell? ⟨g, off + i * 2, none⟩ = some (.string x.pos) ∧ w.cell? ⟨g, off + i * 2 + 1, none⟩ = some (.int .i64 x.many) := by
 have hr : (xs.map plRow)[i]? = some (plRow x) := by simp [hx]
 exact ⟨h.cell hr (j := 0) rfl, h.cell hr (j := 1) rfl⟩
/-- Are two rows one? -/
def pleq (a b : PlD) : Bool := beqS a.pos b.pos && decide (a.many = b.many)
theorem pleq_iff {a b : PlD} : pleq a b = true ↔ a = b := by
 unfold pleq
 cases a; cases b
 simp only [Bool.and_eq_true, beqS_iff, decide_eq_true_eq, beq_iff_eq, PlD.mk.injEq, and_assoc]
instance : DecidableEq PlD := fun a b => decidable_of_iff (pleq a b = true) pleq_iff
end Go.Proofs.YtddnnjblpgfjeaaGreatDoor
/- Rows of value.candidate: memory, copies, searches, what is struck out, equality. -/
namespace Go.Proofs.YtddnnjblpgfjeaaGreatDoor
open Go.RowKit

def caRow (x : (AsD × Nat)) : List Value := [.string x.1.player, .string x.1.pos, .int .i64 x.1.value, .int .i64 ((x.2 : Nat) : Int)]
/-- A slice of such rows. -/
def Cas (w : World) (lo : Nat) (v : Value) (xs : List (AsD × Nat)) : Prop := Rows w 146 lo 4 v (xs.map caRow)
theorem Cas.below {w w' : World} {lo : Nat} {v : Value} {xs : List (AsD × Nat)} (h : Cas w lo v xs) (hb : Below w.heap.size w w') : Cas w' lo v xs := Rows.below h hb
theorem Cas.other {w w' : World} {lo B : Nat} {v : Value} {xs : List (AsD × Nat)} (h : Cas w lo v xs) (hg : w.grownBy w' (some B)) (hB : B < lo) : Cas w' lo v xs := Rows.other h hg hB
theorem Cas.mono {w : World} {lo lo' : Nat} {v : Value} {xs : List (AsD × Nat)} (h : Cas w lo v xs) (hl : lo' ≤ lo) : Cas w lo' v xs := Rows.mono h hl
theorem ca_at {w : World} {lo : Nat} {v : Value} {xs : List (AsD × Nat)} (h : Cas w lo v xs) :
  (v = .slice none 0 0 ∧ xs = []) ∨ ∃ g off cap, v = .slice (some ⟨g, off, none⟩) xs.length cap ∧ lo ≤ g ∧ g < w.heap.size ∧ xs.length ≤ 1000000 ∧
   ∀ (i : Nat) (x : (AsD × Nat)), xs[i]? = some x → w.cell? ⟨g, off + i * 4, none⟩ = some (.string x.1.player) ∧ w.cell? ⟨g, off + i * 4 + 1, none⟩ = some (.string x.1.pos) ∧ w.cell? ⟨g, off + i * 4 + 2, none⟩ = some (.int .i64 x.1.value) ∧ w.cell? ⟨g, off + i * 4 + 3, none⟩ = some (.int .i64 ((x.2 : Nat) : Int)) := by
 rcases rows_at h with ⟨e1, e2⟩ | ⟨g, off, cap, e1, e2, e3, hc⟩
 ·exact .inl ⟨e1, by simpa using e2⟩
 ·refine .inr ⟨g, off, cap, by simpa using e1, e2, e3, by simpa using h.small, fun i x hx => ?_⟩
  have hr : (xs.map caRow)[i]?.getD [] = caRow x := by simp [hx]
  exact ⟨hc i 0 _ (by rw [hr]; rfl), hc i 1 _ (by rw [hr]; rfl), hc i 2 _ (by rw [hr]; rfl), hc i 3 _ (by rw [hr]; rfl)⟩
theorem ca_shape {w : World} {lo : Nat} {v : Value} {xs : List (AsD × Nat)} (h : Cas w lo v xs) : ∃ a c, v = .slice a xs.length c := by
 rcases ca_at h with ⟨rfl, rfl⟩ | ⟨g, off, cap, rfl, _⟩
 ·exact ⟨none, 0, rfl⟩
 ·exact ⟨_, _, rfl⟩
theorem ca_each (xs : List (AsD × Nat)) : ∀ r ∈ xs.map caRow, r.length = 4 := by
 intro r hr
 obtain ⟨x, _, rfl⟩ := List.mem_map.1 hr
 rfl
/-- Rows that the call made itself. -/
def OwnCa (w : World) (base : Nat) (v : Value) (xs : List (AsD × Nat)) : Prop := w.ownsRow base 146 4 v xs.length (xs.map caRow).flatten
theorem ca_of_owns {w : World} {base : Nat} {v : Value} {xs : List (AsD × Nat)} (h : OwnCa w base v xs) (hs : xs.length ≤ 1000000) : Cas w base v xs :=
 Rows.of_owns (by unfold OwnCa at h; simpa using h) (by simpa using hs) (ca_each xs)
theorem info_Ca : (Tryz.prog.info? 146).map (fun i => (i.zero, i.size, i.bytes)) = some (some (.agg #[.string ⟨#[]⟩, .string ⟨#[]⟩, .int .i64 0, .int .i64 0]), 4, 48) := by kernel_rfl
end Go.Proofs.YtddnnjblpgfjeaaGreatDoor
namespace Go.Proofs.YtddnnjblpgfjeaaGreatDoor
open Go.RowKit

structure PaD where
 name : ByteArray
 val : ByteArray
instance : Inhabited PaD := ⟨⟨⟨#[]⟩, ⟨#[]⟩⟩⟩
def paRow (x : PaD) : List Value := [.string x.name, .string x.val]
/-- A slice of such rows. -/
def Pas (w : World) (lo : Nat) (v : Value) (xs : List PaD) : Prop := Rows w 70 lo 2 v (xs.map paRow)
theorem Pas.below {w w' : World} {lo : Nat} {v : Value} {xs : List PaD} (h : Pas w lo v xs) (hb : Below w.heap.size w w') : Pas w' lo v xs := Rows.below h hb
theorem Pas.other {w w' : World} {lo B : Nat} {v : Value} {xs : List PaD} (h : Pas w lo v xs) (hg : w.grownBy w' (some B)) (hB : B < lo) : Pas w' lo v xs := Rows.other h hg hB
theorem Pas.mono {w : World} {lo lo' : Nat} {v : Value} {xs : List PaD} (h : Pas w lo v xs) (hl : lo' ≤ lo) : Pas w lo' v xs := Rows.mono h hl
theorem pa_at {w : World} {lo : Nat} {v : Value} {xs : List PaD} (h : Pas w lo v xs) :
  (v = .slice none 0 0 ∧ xs = []) ∨ ∃ g off cap, v = .slice (some ⟨g, off, none⟩) xs.length cap ∧ lo ≤ g ∧ g < w.heap.size ∧ xs.length ≤ 1000000 ∧
   ∀ (i : Nat) (x : PaD), xs[i]? = some x → w.cell? ⟨g, off + i * 2, none⟩ = some (.string x.name) ∧ w.cell? ⟨g, off + i * 2 + 1, none⟩ = some (.string x.val) := by
 rcases rows_at h with ⟨e1, e2⟩ | ⟨g, off, cap, e1, e2, e3, hc⟩
 ·exact .inl ⟨e1, by simpa using e2⟩
 ·refine .inr ⟨g, off, cap, by simpa using e1, e2, e3, by simpa using h.small, fun i x hx => ?_⟩
  have hr : (xs.map paRow)[i]?.getD [] = paRow x := by simp [hx]
  exact ⟨hc i 0 _ (by rw [hr]; rfl), hc i 1 _ (by rw [hr]; rfl)⟩
theorem pa_shape {w : World} {lo : Nat} {v : Value} {xs : List PaD} (h : Pas w lo v xs) : ∃ a c, v = .slice a xs.length c := by
 rcases pa_at h with ⟨rfl, rfl⟩ | ⟨g, off, cap, rfl, _⟩
 ·exact ⟨none, 0, rfl⟩
 ·exact ⟨_, _, rfl⟩
theorem pa_each (xs : List PaD) : ∀ r ∈ xs.map paRow, r.length = 2 := by
 intro r hr
 obtain ⟨x, _, rfl⟩ := List.mem_map.1 hr
 rfl
/-- Rows that the call made itself. -/
def OwnPa (w : World) (base : Nat) (v : Value) (xs : List PaD) : Prop := w.ownsRow base 70 2 v xs.length (xs.map paRow).flatten
theorem pa_of_owns {w : World} {base : Nat} {v : Value} {xs : List PaD} (h : OwnPa w base v xs) (hs : xs.length ≤ 1000000) : Pas w base v xs :=
 Rows.of_owns (by unfold OwnPa at h; simpa using h) (by simpa using hs) (pa_each xs)
theorem info_Pa : (Tryz.prog.info? 70).map (fun i => (i.zero, i.size, i.bytes)) = some (some (.agg #[.string ⟨#[]⟩, .string ⟨#[]⟩]), 2, 32) := by kernel_rfl
/-- Are two rows one? -/
def paeq (a b : PaD) : Bool := beqS a.name b.name && beqS a.val b.val
theorem paeq_iff {a b : PaD} : paeq a b = true ↔ a = b := by
 unfold paeq
 cases a; cases b
 simp only [Bool.and_eq_true, beqS_iff, decide_eq_true_eq, beq_iff_eq, PaD.mk.injEq, and_assoc]
instance : DecidableEq PaD := fun a b => decidable_of_iff (paeq a b = true) paeq_iff
theorem run_neqPa (a b : PaD) (w : World) : (binOp .neq 70 (.agg #[.string a.name, .string a.val]) (.agg #[.string b.name, .string b.val])).run Tryz.prog w = .ok (.bool (!paeq a b)) w := by
 have hS : Tryz.prog.underlying 70 = some (.struct (Tryz.prog.fieldsOf 70)) := by kernel_rfl
 have hp : Tryz.prog.stoodInHeld 70 = false := by kernel_rfl
 have us := Tryz.underlying9
 have ui := Tryz.underlying3
 have ub := Tryz.underlying4
 rw [run_neq_struct, show (10000 : Nat) = 9999 + 1 from rfl, run_equalIn_agg w 9999 70 _ _ hS hp]
 simp only [Program.fieldsOf, Tryz.underlying70]
 go_simp
 unfold paeq beqS
 cases h0 : a.name.toList == b.name.toList <;> cases h1 : a.val.toList == b.val.toList <;> simp_all
theorem eqGuardPa (x y : Operand) (xs ys : Array Value) (w : World) : (eqGuard .neq 70 x y (.agg xs) (.agg ys)).run Tryz.prog w = .ok () w := run_eqGuard_agg w .neq 70 x y xs ys (by kernel_rfl)
set_option maxRecDepth 100000 in
set_option maxHeartbeats 4000000 in
theorem equalPa_calls (lo lo' : Nat) (v v' : Value) (xs ys : List PaD) (w : World) (hv : Pas w lo v xs) (hv' : Pas w lo' v' ys) (ha : xs.length ≤ 1000000) (hb : ys.length ≤ 1000000) :
  Calls Tryz.prog 36 #[v, v'] w (BoolIs (decide (xs = ys)) w) := by
 obtain ⟨xa, xc, rfl⟩ := pa_shape hv
 obtain ⟨ya, yc, rfl⟩ := pa_shape hv'
 by_cases hl : xs.length = ys.length
 ·have HD := Lib.hid (show ∀ (i : Nat) (a b : PaD), xs[i]? = some a → ys[i]? = some b → paeq a b = false → decide (xs = ys) = false from fun i a b h1 h2 h3 => by
   refine decide_eq_false fun e => ?_
   rw [e, h2] at h1
   cases h1
   rw [paeq_iff.2 rfl] at h3; cases h3)
  have HT := Lib.hid (show (∀ (i : Nat) (a b : PaD), i < xs.length → xs[i]? = some a → ys[i]? = some b → paeq a b = true) → decide (xs = ys) = true from fun h => by
   refine decide_eq_true (List.ext_getElem? fun i => ?_)
   by_cases hi : i < xs.length
   ·rw [List.getElem?_eq_getElem hi, List.getElem?_eq_getElem (show i < ys.length by omega)]
    exact congrArg some (paeq_iff.1 (h i _ _ hi (List.getElem?_eq_getElem hi) (List.getElem?_eq_getElem _)))
   ·rw [List.getElem?_eq_none (by omega), List.getElem?_eq_none (by omega)])
  generalize decide (xs = ys) = R at HD HT ⊢
  have Hc : Hid (∀ (i : Nat) (a b : PaD), xs[i]? = some a → ys[i]? = some b → ∃ g off g' off', xa = some ⟨g, off, none⟩ ∧ ya = some ⟨g', off', none⟩ ∧
    (w.cell? ⟨g, off + i * 2, none⟩ = some (.string a.name) ∧ w.cell? ⟨g, off + i * 2 + 1, none⟩ = some (.string a.val)) ∧
    (w.cell? ⟨g', off' + i * 2, none⟩ = some (.string b.name) ∧ w.cell? ⟨g', off' + i * 2 + 1, none⟩ = some (.string b.val))) := Lib.hid fun i a b h1 h2 => by
   rcases pa_at hv with ⟨_, rfl⟩ | ⟨g, off, cap, e1, _, _, _, hc⟩
   ·simp at h1
   ·rcases pa_at hv' with ⟨_, rfl⟩ | ⟨g', off', cap', e2, _, _, _, hc'⟩
    ·simp at h2
    ·simp only [Value.slice.injEq] at e1 e2
     exact ⟨g, off, g', off', e1.1, e2.1, hc i a h1, hc' i b h2⟩
  obtain ⟨n, hn⟩ : ∃ n, xs.length = n := ⟨_, rfl⟩
  have hn' : ys.length = n := by omega
  have HN := Lib.hid hn; have HN' := Lib.hid hn'
  rw [hn, hn']; rw [hn] at ha
  clear hv hv' hl hn hn' hb; have e1 : ((n : Int) != (n : Int)) = false := by simp
  go_enter Tryz.func36, Tryz.ntmps36; go_wp2_with fail
  go_loopw [13] (fun i wr => ∃ k : Nat, k ≤ n ∧ i = .int .i64 k ∧ Hid (∀ (i : Nat) (a b : PaD), i < k → xs[i]? = some a → ys[i]? = some b → paeq a b = true) ∧ Below w.heap.size w wr) (fun i _ => n - (intOf i).toNat)
  case atStart => exact ⟨0, Nat.zero_le _, rfl, Lib.hid fun i _ _ h => by omega, Below.refl _ _⟩
  case round =>
   obtain ⟨k, hk, rfl, H0, hb⟩ := hrel; by_cases hlt : k < n
   ·obtain ⟨a, hai⟩ : ∃ a, xs[k]? = some a := ⟨_, List.getElem?_eq_getElem (show k < xs.length by have := HN.out; omega)⟩
    obtain ⟨b, hbi⟩ : ∃ b, ys[k]? = some b := ⟨_, List.getElem?_eq_getElem (show k < ys.length by have := HN'.out; omega)⟩
    obtain ⟨g, off, g', off', rfl, rfl, ⟨p0, p1⟩, q0, q1⟩ := Hc.out k a b hai hbi
    have a0 := below_cell hb p0; have b0 := below_cell hb q0; have a1 := below_cell hb p1; have b1 := below_cell hb q1; have w3 : (k : Int) < (n : Int) := by omega
    have hne := run_neqPa a b; have hgd := eqGuardPa; have Ha := Lib.hid hai; have Hb := Lib.hid hbi; clear hai hbi p0 p1 q0 q1; cases hf : paeq a b
    ·rw [hf] at hne
     have Hf := Lib.hid hf; clear hf; go_wp2_with fail
     go_quiet (fail)
     go_wp2_with fail
     go_ret
     exact ⟨ret_bool (HD.out k a b Ha.out Hb.out Hf.out).symm, below_drewNG hb _⟩
    ·rw [hf] at hne
     have H1 : Hid (∀ (i : Nat) (a b : PaD), i < k + 1 → xs[i]? = some a → ys[i]? = some b → paeq a b = true) := Lib.hid fun i x y hi hx hy => by
      rcases Nat.lt_succ_iff_lt_or_eq.1 hi with h | rfl
      ·exact H0.out i x y h hx hy
      ·rw [Ha.out] at hx; rw [Hb.out] at hy; cases hx; cases hy; exact hf
     clear hf; go_wp2_with fail
     go_quiet (fail)
     go_wp2_with fail
     go_roundw
     case rel => exact ⟨k + 1, by omega, by go_num, H1, below_drewNG hb _⟩
     case measure => simp [intOf]; omega
   ·obtain rfl : k = n := by omega
    go_wp2_with fail
    go_ret
    exact ⟨ret_bool (HT.out fun i a b hi => H0.out i a b (by rw [← HN.out]; exact hi)).symm, hb⟩
 ·have HR := Lib.hid (show decide (xs = ys) = false from decide_eq_false fun e => hl (by rw [e]))
  have e1 : ((xs.length : Int) != (ys.length : Int)) = true := by simp; omega
  have hl' : ¬ xs.length = ys.length := hl
  clear hv hv' hl; go_enter Tryz.func36, Tryz.ntmps36; go_wp2_with fail
  go_ret
  exact ⟨ret_bool HR.out.symm, Below.refl _ _⟩
end Go.Proofs.YtddnnjblpgfjeaaGreatDoor
