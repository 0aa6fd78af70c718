/- The pool of whom teams can field. -/
import Derived.Test.YtddnnjblpgfjeaaGreatDoorMgap
import Derived.Test.YtddnnjblpgfjeaaGreatDoorMgar
import Derived.Test.YtddnnjblpgfjeaaGreatDoorMgao
import Derived.Test.YtddnnjblpgfjeaaGreatDoorMgas
import Derived.Laws.ResultCell
namespace Go.Proofs.YtddnnjblpgfjeaaGreatDoor
open Go.RowKit

/-- Which number a position has among the first k places. -/
def numK (ps : List PlD) : Nat → ByteArray → Option Int
 | 0, _ => none
 | k + 1, pos => if beqS (ps[k]?.getD default).pos pos then some (k : Int) else numK ps k pos
theorem numK_none {ps : List PlD} {pos : ByteArray} : ∀ k, (∀ i, i < k → beqS (ps[i]?.getD default).pos pos = false) → numK ps k pos = none
 | 0, _ => rfl
 | k + 1, h => by
  unfold numK; rw [h k (by omega)]
  exact numK_none k fun i hi => h i (by omega)
theorem numK_some {ps : List PlD} {pos : ByteArray} {j : Nat} (hj : beqS (ps[j]?.getD default).pos pos = true) : ∀ k, j < k → (∀ i, i < k → i ≠ j → beqS (ps[i]?.getD default).pos pos = false) → numK ps k pos = some (j : Int)
 | 0, h, _ => by omega
 | k + 1, h, hn => by
  unfold numK; by_cases e : k = j
  ·subst e; rw [hj]; rfl
  ·rw [hn k (by omega) e]
   exact numK_some hj k (by omega) fun i hi hne => hn i (by omega) hne
theorem numK_plAt {ps : List PlD} (hp : OnceP ps) (pos : ByteArray) : numK ps ps.length pos = (plAt ps pos).map fun i => (i : Int) := by
 unfold plAt
 cases hf : ps.findIdx? fun y => beqS y.pos pos with
 | none =>
  refine numK_none _ fun i hi => ?_
  rw [List.getElem?_eq_getElem hi]; exact Bool.eq_false_iff.2 (by simpa using List.findIdx?_eq_none_iff.1 hf _ (List.getElem_mem hi))
 | some j =>
  obtain ⟨hj, hb, _⟩ := List.findIdx?_eq_some_iff_getElem.1 hf; refine numK_some (by rw [List.getElem?_eq_getElem hj]; exact hb) _ hj fun i hi hne => ?_
  rw [List.getElem?_eq_getElem hi]; cases hb2 : beqS ps[i].pos pos with
  | false => simpa using hb2
  | true =>
   have e := (beqS_iff.1 hb2).trans (beqS_iff.1 hb).symm; exact absurd (hp i j _ _ (List.getElem?_eq_getElem hi) (List.getElem?_eq_getElem hj) e) hne
/-- A pool in memory. -/
def PoolIs (u : Value) (cs : List (AsD × Nat)) (w : World) (e : Ending) (w' : World) : Prop := ∃ cv, e = .returned (.agg #[u, cv]) ∧ Cas w' w.heap.size cv cs ∧ Below w.heap.size w w'
set_option maxRecDepth 100000 in
set_option maxHeartbeats 8000000 in
theorem poolOf_calls (lo lo' : Nat) (v u : Value) (xs : List AsD) (ps : List PlD) (w : World) (hv : Ass w lo v xs) (hP : Pls w lo' u ps) (hn : xs.length ≤ 12) (hs : ∀ x ∈ xs, SmallA x) (hm : ps.length ≤ 1000) (hp : ∀ y ∈ ps, SmallP y) (ho : OnceP ps) :
  Calls Tryz.prog 104 #[v, u] w (PoolIs u (cands ps xs) w) := by
 obtain ⟨i0, hi, hz0, hz1, hz2⟩ := info_parts info_Ca
 have hmm := @run_makeMap Tryz.prog
 have CR := Lib.hid (fun W2 (hb : Below w.heap.size w W2) => ranked_calls lo v xs W2 (hv.below hb) hn)
 have HK := Lib.hid (fun (x : AsD) => numK_plAt ho x.pos)
 have HC := Lib.hid (show cands ps xs = (rank xs).filterMap (candOf ps) from rfl)
 generalize cands ps xs = CC at HC ⊢
 have Hs := Lib.hid (fun x (h : x ∈ rank xs) => hs x ((rank_perm xs).mem_iff.1 h))
 have Hrl := Lib.hid (show (rank xs).length ≤ 12 by rw [(rank_perm xs).length_eq]; exact hn)
 generalize rank xs = R at CR HC Hs Hrl
 have Hp := Lib.hid hp
 have HPat := Lib.hid (pl_at hP)
 obtain ⟨pa, pc, rfl⟩ := pl_shape hP
 obtain ⟨a, c, rfl⟩ := as_shape hv
 obtain ⟨n, hnn⟩ : ∃ n, ps.length = n := ⟨_, rfl⟩
 have Hn := Lib.hid hnn
 rw [hnn] at hm HK HPat ⊢
 obtain ⟨W, hW⟩ : ∃ W, W = (w.alloc (.cells #[.slice none 0 0, .slice none 0 0] 142)).alloc (.map #[] 0) := ⟨_, rfl⟩
 have hwW : Below w.heap.size w W := by rw [hW]; exact below_step (below_alloc w _) (below_alloc _ _)
 have hX4 : W.heap[w.heap.size]? = some (.cells #[.slice none 0 0, .slice none 0 0] 142 (0, 0)) := by rw [hW]; exact heap_alG (heap_alloc_new w _) _
 have hM0 : IMap W (w.heap.size + 1) 0 (numK ps 0) := by
  rw [hW]; have := IMap.made (w.alloc (.cells #[.slice none 0 0, .slice none 0 0] 142))
  rw [show numK ps 0 = fun _ => none from by funext k; rfl]
  simpa using this
 have HM0 := Lib.hid hM0
 have HX4 := Lib.hid hX4
 have HwW := Lib.hid hwW
 clear hv hP hs hp ho hnn hwW hX4 hM0
 go_enter Tryz.func104, Tryz.ntmps104
 go_upto_region 2 with fail
 rw [← hW]
 clear hW hmm
 go_wp2_with fail
 go_loopw [16] (fun i wr => ∃ k : Nat, k ≤ n ∧ i = .int .i64 k ∧ Hid (IMap wr (w.heap.size + 1) k (numK ps k)) ∧ Hid (wr.heap[w.heap.size]? = some (.cells #[.slice none 0 0, .slice none 0 0] 142 (0, 0))) ∧ Below w.heap.size w wr) (fun i _ => n - (intOf i).toNat)
 case atStart => exact ⟨0, Nat.zero_le _, rfl, HM0, HX4, HwW.out⟩
 case round =>
  clear HM0 HX4 HwW; obtain ⟨k, hk, rfl, HM, H4, hb⟩ := hrel; by_cases hlt : k < n
  ·obtain ⟨y, hy⟩ : ∃ y, ps[k]? = some y := ⟨_, List.getElem?_eq_getElem (by rw [Hn.out]; exact hlt)⟩
   have Hnk := Lib.hid (show numK ps (k + 1) = fun pos => if beqS y.pos pos then some (k : Int) else numK ps k pos by funext pos; rw [numK, hy]; rfl)
   have hys := (Hp.out y (List.mem_of_getElem? hy)).1; rcases HPat.out with ⟨_, h⟩ | ⟨pg, po, pcap, e, _, hpg, _, hcell⟩
   ·rw [h] at hy; simp at hy
   simp only [Value.slice.injEq] at e
   obtain ⟨rfl, -, rfl⟩ := e; obtain ⟨q0, q1⟩ := hcell k y hy; have p0 := below_cell hb q0; have p1 := below_cell hb q1; have hbA := below_step hb (below_alloc wr (.cells #[.string y.pos, .int .i64 y.many] 125)); have hM1 := HM.out.below (below_alloc wr (.cells #[.string y.pos, .int .i64 y.many] 125)); obtain ⟨w2, hput, hM2, hg2⟩ := hM1.put (by omega) y.pos (by omega) (k : Int) (by omega)
   rw [← Hnk.out] at hM2
   have HM2 := Lib.hid hM2; have H42 : Hid (w2.heap[w.heap.size]? = some (.cells #[.slice none 0 0, .slice none 0 0] 142 (0, 0))) := Lib.hid (heap_gbG (heap_alG H4.out _) hg2 (by omega))
   have hb2 := below_gbG hbA hg2 (by omega)
   clear hy hcell q0 q1 hM1 hM2 hg2 Hnk; go_wp2_with fail
   go_roundw
   case rel => exact ⟨k + 1, by omega, by go_num, HM2, H42, hb2⟩
   case measure => simp [intOf]; omega
  ·obtain rfl : k = n := by omega
   obtain ⟨W1, hW1⟩ : ∃ W1, W1 = wr.alloc (.cells #[.slice pa k pc, .slice none 0 0] 142) := ⟨_, rfl⟩
   have hbW1 : Below wr.heap.size wr W1 := by rw [hW1]; exact below_alloc wr _
   have hX8 : W1.heap[wr.heap.size]? = some (.cells #[.slice pa k pc, .slice none 0 0] 142 (0, 0)) := by rw [hW1]; exact heap_alloc_new wr _
   have H41 := Lib.hid (cells_later H4.out hbW1); have HM1 := Lib.hid (HM.out.below hbW1); have hbw1 := below_step hb hbW1; obtain ⟨X8, hX8e⟩ : ∃ X8, X8 = wr.heap.size := ⟨_, rfl⟩
   have h8lt := lt_of_heap hX8; have hwr4 := lt_of_heap H4.out; rw [← hX8e] at hX8 h8lt hwr4
   have HX8 := Lib.hid hX8; have hX8w : w.heap.size + 1 < X8 := by have := HM.out.lt; omega
   clear HM H4 hb hbW1 hX8; go_upto_region 8 with fail
   rw [← hW1, ← hX8e]; clear hW1 hX8e; go_wp2_with fail
   refine (CR.out W1 hbw1).mono ?_; rintro e w2 ⟨v2, hfr, rfl, hb2⟩; have hR := hfr.ass (by have := Hrl.out; omega)
   obtain ⟨ra, rc, rfl⟩ := as_shape hR; have HRat := Lib.hid (as_at hR); have H82 := Lib.hid (cells_later HX8.out hb2); have H42 := Lib.hid (cells_later H41.out hb2); have HM2 := Lib.hid (HM1.out.below hb2); have hbw2 := below_step hbw1 hb2; obtain ⟨m, hmm⟩ : ∃ m, R.length = m := ⟨_, rfl⟩
   have Hm := Lib.hid hmm; have hRl := Hrl.out; have h8w2 : X8 < w2.heap.size := lt_of_heap H82.out
   have hM2lt := HM2.out.lt
   have Hfr := Lib.hid (show ∀ g off c', Value.slice ra m rc = .slice (some ⟨g, off, none⟩) m c' → g ≠ X8 from by
    intro g off c' e hgX; rcases hfr with ⟨e1, _⟩ | ⟨g2, off2, c2, e1, hr, _, hl⟩
    ·rw [hmm] at e1; rw [e1] at e; cases e
    ·rw [hmm] at e1; rw [e1] at e
     simp only [Value.slice.injEq, Option.some.injEq, Addr.mk.injEq, and_true] at e
     omega)
   rw [hmm] at HRat hRl ⊢
   clear hfr hR HX8 H41 HM1 hb2 hbw1 hmm; go_wp2_with fail
   go_loopw [31] (fun i wx => ∃ (j : Nat) (cv : Value), j ≤ m ∧ i = .int .i64 j ∧ Hid (wx.heap[X8]? = some (.cells #[.slice pa k pc, cv] 142 (0, 0))) ∧ Hid (OwnCa wx w2.heap.size cv ((R.take j).filterMap (candOf ps))) ∧ w2.grownBy wx (some X8)) (fun i _ => m - (intOf i).toNat)
   case atStart => exact ⟨0, .slice none 0 0, Nat.zero_le _, rfl, H82, Lib.hid (by simpa [OwnCa] using World.ownsRow_nil _ _ _ _), gb_refl _ _⟩
   case round =>
    clear H82; obtain ⟨j, cv, hj, rfl, H8, Hown, hg⟩ := hrel; by_cases hjm : j < m
    ·obtain ⟨x, hx⟩ : ∃ x, R[j]? = some x := ⟨_, List.getElem?_eq_getElem (by rw [Hm.out]; exact hjm)⟩
     have hsx := (Hs.out x (List.mem_of_getElem? hx)).2.1; rcases HRat.out with ⟨_, h⟩ | ⟨g, off, cap, e, _, hgl, _, hcell⟩
     ·rw [h] at hx; simp at hx
     simp only [Value.slice.injEq] at e
     obtain ⟨rfl, -, rfl⟩ := e; have hgX := Hfr.out g off rc rfl; obtain ⟨q0, q1, q2⟩ := hcell j x hx; have p0 := gb_cell hg q0 hgX; have p1 := gb_cell hg q1 hgX; have p2 := gb_cell hg q2 hgX
     have Hst := Lib.hid (show (R.take (j + 1)).filterMap (candOf ps) = (R.take j).filterMap (candOf ps) ++ (candOf ps x).toList by
      rw [take_snocG hx, List.filterMap_append]; cases hc : candOf ps x <;> simp [List.filterMap_cons, hc])
     have hM3 := (HM2.out.kept hg (by simp; omega)).below (below_alloc wr (.cells #[.string x.player, .string x.pos, .int .i64 x.value] 78))
     have hlook := hM3.lookOk x.pos (by omega)
     rw [HK.out x] at hlook
     have H8A := Lib.hid (heap_alG H8.out (.cells #[.string x.player, .string x.pos, .int .i64 x.value] 78)); have hgA := gb_trans hg (gb_alloc wr (.cells #[.string x.player, .string x.pos, .int .i64 x.value] 78) (some X8)); have HownA := Lib.hid (World.ownsRow.alloc Hown.out (.cells #[.string x.player, .string x.pos, .int .i64 x.value] 78)); clear hx hcell q0 q1 q2 hM3; cases hpl : plAt ps x.pos with
     | none =>
      have Hc := Lib.hid (show (R.take (j + 1)).filterMap (candOf ps) = (R.take j).filterMap (candOf ps) by rw [Hst.out]; unfold candOf; rw [hpl]; simp)
      rw [hpl] at hlook
      clear hpl Hst; go_wp2_with fail
      go_roundw
      case rel => exact ⟨j + 1, cv, by omega, by go_num, H8A, by rw [Hc.out]; exact HownA, hgA⟩
      case measure => simp [intOf]; omega
     | some pi =>
      have hpil : pi < 1000000 := by
       have := (List.findIdx?_eq_some_iff_getElem.1 hpl).1
       have := Hn.out
       omega
      rw [hpl] at hlook
      try simp only [Option.map_some, Option.getD_some, Option.isSome_some] at hlook
      by_cases hpos : 0 < x.value
      ·have e1 : decide (0 < x.value) = true := decide_eq_true hpos
       have Hc := Lib.hid (show (R.take (j + 1)).filterMap (candOf ps) = (R.take j).filterMap (candOf ps) ++ [(x, pi)] by rw [Hst.out]; unfold candOf; rw [hpl, show worthy x = true from e1]; simp)
       have hcl : ((R.take j).filterMap (candOf ps)).length ≤ 12 := by
        have h1 := List.length_filterMap_le (candOf ps) (R.take j); have h2 : (R.take j).length ≤ R.length := List.length_take_le' _ _
        have h3 := Hm.out; omega
       generalize (R.take j).filterMap (candOf ps) = C0 at HownA Hc hcl
       have x8a := cell_at H8A.out 0 rfl; have x8b := cell_at H8A.out 1 rfl; have hownB := World.ownsRow.alloc HownA.out (.cells #[.string x.player, .string x.pos, .int .i64 x.value, .int .i64 ((pi : Nat) : Int)] 146); have hwz : w2.heap.size ≤ wr.heap.size := hg.size
       clear hpl Hst; go_wp2_with (at_builtin; refine wpList_append_own _ rfl _ _ 140 rfl w2.heap.size 146 i0 (.agg #[.string ⟨#[]⟩, .string ⟨#[]⟩, .int .i64 0, .int .i64 0]) 4 48 Tryz.underlying140 hi hz0 hz1 hz2 rfl (by decide) _ _ _ rfl hownB ⟨_, 0, none⟩ 1 1 [.string x.player, .string x.pos, .int .i64 x.value, .int .i64 ((pi : Nat) : Int)] rfl rfl ?c1 ?c2 ?c3 ?c4 ?c5 ?_)
       case c1 => have h := cells_newG (wr.alloc (.cells #[.string x.player, .string x.pos, .int .i64 x.value] 78)) [.string x.player, .string x.pos, .int .i64 x.value, .int .i64 ((pi : Nat) : Int)] 146; simpa using h
       case c2 => simp [Value.oneCell']
       case c3 => unfold maxLen; omega
       case c4 => omega
       case c5 => simp; omega
       intro v' w5 hown5 hgrow _; obtain ⟨va, vc, rfl⟩ := owns_shape hown5; obtain ⟨vn, hvn⟩ : ∃ vn, vn = C0.length + 1 := ⟨_, rfl⟩
       rw [← hvn] at hown5 ⊢
       have Hvn := Lib.hid hvn; clear hvn; have hob := fun r hr => (own_block hownB r hr).1
       have h85 : w5.heap[X8]? = some (.cells #[.slice pa k pc, cv] 142 (0, 0)) := (hgrow.block X8 (by simp; omega) (fun e => by have := hob X8 e.symm; omega)).trans (heap_alG H8A.out _)
       have y0 := cell_at h85 0 rfl; have y1 := cell_at h85 1 rfl; have hf5 := fun o => (show w5.frozen? ⟨X8, o, none⟩ = false by simp [World.frozen?, h85])
       have H8s : Hid ((w5.setCell ⟨X8, 1, none⟩ (.slice va vn vc)).heap[X8]? = some (.cells #[.slice pa k pc, .slice va vn vc] 142 (0, 0))) := Lib.hid (by simp [World.setCell, Array.getElem?_modify, h85])
       have hgs : w2.grownBy (w5.setCell ⟨X8, 1, none⟩ (.slice va vn vc)) (some X8) := gb_trans (gb_then (gb_trans hgA (gb_alloc _ (.cells #[.string x.player, .string x.pos, .int .i64 x.value, .int .i64 ((pi : Nat) : Int)] 146) _)) hgrow hob) (gb_setCell w5 X8 1 (.slice va vn vc))
       have Hos : Hid (OwnCa (w5.setCell ⟨X8, 1, none⟩ (.slice va vn vc)) w2.heap.size (.slice va vn vc) (C0 ++ [(x, pi)])) := Lib.hid (by
        unfold OwnCa; have e : ((C0 ++ [(x, pi)]).map caRow).flatten = (C0.map caRow).flatten ++ [.string x.player, .string x.pos, .int .i64 x.value, .int .i64 ((pi : Nat) : Int)] := by simp [caRow]
        rw [e, List.length_append, List.length_singleton, ← Hvn.out]; exact own_keepG hown5 (gb_setCell w5 X8 1 (.slice va vn vc)) (by omega))
       rw [← Hc.out] at Hos
       clear hgrow hown5 hownB h85 HownA H8A x8a x8b hg; go_wp2_with fail
       go_roundw
       case rel => exact ⟨j + 1, .slice va vn vc, by omega, by go_num, H8s, Hos, hgs⟩
       case measure => simp [intOf]; omega
      ·have e1 : decide (0 < x.value) = false := decide_eq_false hpos
       have hnp : x.value ≤ 0 := by omega
       have Hc := Lib.hid (show (R.take (j + 1)).filterMap (candOf ps) = (R.take j).filterMap (candOf ps) by rw [Hst.out]; unfold candOf; rw [show worthy x = false from e1]; simp)
       clear hpl Hst; go_wp2_with fail
       go_roundw
       case rel => exact ⟨j + 1, cv, by omega, by go_num, H8A, by rw [Hc.out]; exact HownA, hgA⟩
       case measure => simp [intOf]; omega
    ·obtain rfl : j = m := by omega
     have Hfin := Lib.hid (show (R.take j).filterMap (candOf ps) = CC by rw [HC.out, ← Hm.out, List.take_length])
     rw [Hfin.out] at Hown
     have hcl : CC.length ≤ 1000000 := by
      rw [HC.out]; have h1 := List.length_filterMap_le (candOf ps) R; have h3 := Hm.out; omega
     obtain ⟨va, vc, rfl⟩ := owns_shape Hown.out; obtain ⟨vn, hvn⟩ : ∃ vn, CC.length = vn := ⟨_, rfl⟩
     have Hvn := Lib.hid hvn; have x8a := cell_at H8.out 0 rfl; have x8b := cell_at H8.out 1 rfl; rw [hvn] at Hown H8 x8a x8b hcl
     clear hvn; have h4x : wr.heap[w.heap.size]? = some (.cells #[.slice none 0 0, .slice none 0 0] 142 (0, 0)) := heap_gbG H42.out hg (by omega)
     have y0 := cell_at h4x 0 rfl; have y1 := cell_at h4x 1 rfl; have hf4 := fun o => (show wr.frozen? ⟨w.heap.size, o, none⟩ = false by simp [World.frozen?, h4x])
     have hbx := below_gbG hbw2 hg (by omega)
     have HB := Lib.hid ((hbx.setCell (p := ⟨w.heap.size, 0, none⟩) (Nat.le_refl _) (.slice pa k pc)).setCell (p := ⟨w.heap.size, 1, none⟩) (Nat.le_refl _) (.slice va vn vc)); have HZ := Lib.hid (show ((wr.setCell ⟨w.heap.size, 0, none⟩ (.slice pa k pc)).setCell ⟨w.heap.size, 1, none⟩ (.slice va vn vc)).heap[w.heap.size]? = some (.cells #[.slice pa k pc, .slice va vn vc] 142 (0, 0)) by simp [World.setCell, Array.getElem?_modify, h4x])
     have hz2 : w.heap.size < w2.heap.size := by omega
     have HCv := Lib.hid (show Cas ((wr.setCell ⟨w.heap.size, 0, none⟩ (.slice pa k pc)).setCell ⟨w.heap.size, 1, none⟩ (.slice va vn vc)) w.heap.size (.slice va vn vc) CC from
      (ca_of_owns (own_keepG (own_keepG Hown.out (gb_setCell wr w.heap.size 0 (.slice pa k pc)) hz2) (gb_setCell _ w.heap.size 1 (.slice va vn vc)) hz2) (by rw [Hvn.out]; exact hcl)).mono (Nat.le_of_lt hz2))
     clear Hown H8 hbx hg; go_wp2_with fail
     have z0 := cell_at HZ.out 0 rfl; have z1 := cell_at HZ.out 1 rfl; try simp only [Exit.inBlock, Exit.then]
     refine bodyPost_ret (v := .agg #[.slice pa k pc, .slice va vn vc]) ?_ rfl ⟨.slice va vn vc, rfl, HCv.out, HB.out⟩; rw [results_cellG rfl]; go_simp
end Go.Proofs.YtddnnjblpgfjeaaGreatDoor
