/- What one more brings, and whom to drop: the reference's ways. -/
import Derived.Test.YtddnnjblpgfjeaaGreatDoorMgbb
import Derived.Test.YtddnnjblpgfjeaaGreatDoorMgbc
import Derived.Test.YtddnnjblpgfjeaaGreatDoorMgal
/- Who is fielded: the reference's way. -/
namespace Go.Proofs.YtddnnjblpgfjeaaGreatDoor
open Go.RowKit

def FitA (x : AsD) : Prop := -1000000 ≤ x.value ∧ x.value ≤ 1000000
theorem sumV_bound : ∀ (l : List AsD), (∀ x ∈ l, FitA x) → -(1000000 * (l.length : Int)) ≤ sumV l ∧ sumV l ≤ 1000000 * (l.length : Int)
 | [], _ => by unfold sumV; simp
 | a :: l, h => by
  have ih := sumV_bound l fun x hx => h x (by simp [hx])
  have ha := h a (by simp)
  unfold FitA at ha
  have e : sumV (a :: l) = a.value + sumV l := by unfold sumV; simp
  rw [e, List.length_cons]; push_cast
  omega
theorem sumV_one (l : List AsD) (x : AsD) : sumV (l ++ [x]) = sumV l + x.value := by rw [sumV_append]; unfold sumV; simp
theorem mem_ofR {xs : List AsD} {k : ByteArray} {x : AsD} (h : x ∈ ofR xs k) : x ∈ xs := by
 unfold ofR at h
 exact (List.mem_filter.1 ((rank_perm _).mem_iff.1 h)).1
theorem ofR_len (xs : List AsD) (k : ByteArray) : (ofR xs k).length ≤ xs.length := by
 unfold ofR
 rw [(rank_perm _).length_eq]
 exact List.length_filter_le _ _
theorem mem_fieldR {xs : List AsD} {ps : List PlD} {x : AsD} (h : x ∈ fieldR xs ps) : x ∈ xs := by
 unfold fieldR at h
 obtain ⟨y, _, hx⟩ := List.mem_flatMap.1 h
 exact mem_ofR (List.mem_of_mem_take (List.mem_filter.1 hx).1)
theorem fieldR_len (xs : List AsD) : ∀ ps : List PlD, (fieldR xs ps).length ≤ ps.length * xs.length
 | [] => by simp [fieldR]
 | y :: ps => by
  have ih := fieldR_len xs ps; unfold fieldR at *
  rw [List.flatMap_cons, List.length_append, List.length_cons, Nat.add_mul, Nat.one_mul]; have h1 := List.length_filter_le worthy ((ofR xs y.pos).take y.many.toNat); have h2 : ((ofR xs y.pos).take y.many.toNat).length ≤ (ofR xs y.pos).length := List.length_take_le' _ _
  have h3 := ofR_len xs y.pos; omega
theorem take_minA {α : Type} (l : List α) (a : Nat) : l.take (min a l.length) = l.take a := by
 rcases Nat.le_total a l.length with h | h
 ·rw [Nat.min_eq_left h]
 ·rw [Nat.min_eq_right h, List.take_of_length_le (Nat.le_refl _), List.take_of_length_le h]
def namesA (l : List AsD) : List ByteArray := l.map AsD.player
theorem ass_take {lo m c : Nat} {a : Option Addr} {w : World} {xs : List AsD} (h : Ass w lo (.slice a xs.length c) xs) (hm : m ≤ xs.length) : (a = none ∧ xs = [] ∧ m = 0) ∨ ∃ g off, a = some ⟨g, off, none⟩ ∧ ∀ (i : Nat) (x : AsD), xs[i]? = some x → w.cell? ⟨g, off + i * 3, none⟩ = some (.string x.player) ∧ w.cell? ⟨g, off + i * 3 + 1, none⟩ = some (.string x.pos) ∧ w.cell? ⟨g, off + i * 3 + 2, none⟩ = some (.int .i64 x.value) := by
 rcases as_at h with ⟨e, rfl⟩ | ⟨g, off, cap, e, _, _, _, hc⟩
 ·simp only [Value.slice.injEq] at e
  exact .inl ⟨e.1, rfl, by simpa using hm⟩
 ·simp only [Value.slice.injEq] at e
  exact .inr ⟨g, off, e.1, hc⟩
/-- A sum, and names in memory of the call's own. -/
def SumNames (s : Int) (ks : List ByteArray) (w : World) (e : Ending) (w' : World) : Prop := ∃ v, e = .returned (.tuple #[.int .i64 s, v]) ∧ OwnSt w' w.heap.size v ks ∧ Below w.heap.size w w'
set_option maxRecDepth 100000 in
set_option maxHeartbeats 8000000 in
theorem fieldedOf_calls (lo lo' : Nat) (v u : Value) (xs : List AsD) (ps : List PlD) (w : World) (hv : Ass w lo v xs) (hP : Pls w lo' u ps) (hr : RiseA xs) (hn : xs.length ≤ 12) (hf : ∀ x ∈ xs, FitA x) (hm : ps.length ≤ 10) (hp : ∀ y ∈ ps, 0 ≤ y.many ∧ y.many ≤ 12) :
  Calls Tryz.prog 47 #[v, u] w (SumNames (sumV (fieldR xs ps)) (sortL (namesA (fieldR xs ps))) w) := by
 obtain ⟨i0, hi, hz0, hz1, hz2⟩ := info_parts info_str
 have HO := Lib.hid (fun (k : ByteArray) (w' : World) (hb : Below w.heap.size w w') => ofA_calls lo v xs k w' (hv.below hb) hr hn)
 obtain ⟨a, c, rfl⟩ := as_shape hv
 have HB := Lib.hid (fun (l : List AsD) (h : ∀ x ∈ l, x ∈ xs) => sumV_bound l fun x hx => hf x (h x hx))
 have HFl := Lib.hid (fun (k : Nat) => fieldR_len xs (ps.take k))
 have HFm := Lib.hid (fun (k : Nat) (x : AsD) (h : x ∈ fieldR xs (ps.take k)) => mem_fieldR h)
 have Hp := Lib.hid hp
 have HPl := Lib.hid hP
 obtain ⟨pa, pc, rfl⟩ := pl_shape hP
 obtain ⟨n, hnn⟩ : ∃ n, ps.length = n := ⟨_, rfl⟩
 have Hn := Lib.hid hnn
 have HE := Lib.hid (show fieldR xs (ps.take n) = fieldR xs ps by rw [← hnn, List.take_length])
 rw [hnn] at HPl hm ⊢
 generalize fieldR xs ps = FF at HE ⊢
 clear hv hP hr hf hp hnn
 go_enter Tryz.func47, Tryz.ntmps47
 go_wp2_with fail
 go_loopw [6, 7, 15] (fun s o i wr => ∃ k : Nat, k ≤ n ∧ i = .int .i64 k ∧ s = .int .i64 (sumV (fieldR xs (ps.take k))) ∧ Hid (OwnSt wr w.heap.size o (namesA (fieldR xs (ps.take k)))) ∧ Below w.heap.size w wr) (fun _ _ i _ => n - (intOf i).toNat)
 case atStart => exact ⟨0, Nat.zero_le _, rfl, by simp [fieldR, sumV], Lib.hid (by simpa [fieldR, namesA, OwnSt] using World.ownsRow_nil _ _ _ _), Below.refl _ _⟩
 case round =>
  obtain ⟨k, hk, rfl, rfl, Hown, hb⟩ := hrel; by_cases hlt : k < n
  ·obtain ⟨y, hy⟩ : ∃ y, ps[k]? = some y := ⟨_, List.getElem?_eq_getElem (by rw [Hn.out]; exact hlt)⟩
   obtain ⟨hy0, hy1⟩ := Hp.out y (List.mem_of_getElem? hy); have Hsn := Lib.hid (fieldR_snoc (l := xs) hy); have hcell := pl_at HPl.out; rcases hcell with ⟨e, h⟩ | ⟨pg, po, pcap, e, _, hpg, _, hcell⟩
   ·rw [h] at hy; simp at hy
   simp only [Value.slice.injEq] at e
   obtain ⟨rfl, -, rfl⟩ := e; obtain ⟨q0, q1⟩ := hcell k y hy; have p0 := below_cell hb q0; have p1 := below_cell hb q1; have hbA := below_step hb (below_alloc wr (.cells #[.string y.pos, .int .i64 y.many] 125)); have hFl := HFl.out k; have Hfm := Lib.hid (HFm.out k); generalize fieldR xs (ps.take k) = F at Hown Hsn hFl Hfm ⊢
   have HlF := Lib.hid (show F.length ≤ 120 by
    have h1 : (ps.take k).length ≤ 10 := by rw [List.length_take]; omega
    have h2 : (ps.take k).length * xs.length ≤ 10 * 12 := Nat.mul_le_mul h1 hn
    omega)
   clear hy hcell q0 q1 hFl; go_wp2_with fail
   refine (HO.out y.pos _ hbA).mono ?_; rintro e w1 ⟨v1, hfr, rfl, hb1⟩; have hRl := Nat.le_trans (ofR_len xs y.pos) hn; have HRm := Lib.hid (fun x (h : x ∈ ofR xs y.pos) => mem_ofR h)
   have Hsn2 := Lib.hid (show fieldR xs (ps.take (k + 1)) = F ++ ((ofR xs y.pos).take (min y.many.toNat (ofR xs y.pos).length)).filter worthy by rw [take_minA]; exact Hsn.out)
   have hR := hfr.ass (by omega)
   generalize ofR xs y.pos = R at hfr hRl HRm Hsn2 hR
   obtain ⟨ra, rc, rfl⟩ := as_shape hR; have hrc := hR.fits; have hb01 := below_step hbA hb1; have hpl0 : w1.cell? ⟨wr.heap.size, 0, none⟩ = some (.string y.pos) := below_cell hb1 (by rw [World.cell?_alloc_at _ _ _ _ rfl]; rfl)
   have hpl1 : w1.cell? ⟨wr.heap.size, 1, none⟩ = some (.int .i64 y.many) := below_cell hb1 (by rw [World.cell?_alloc_at _ _ _ _ rfl]; rfl)
   obtain ⟨m, hmm⟩ : ∃ m, min y.many.toNat R.length = m := ⟨_, rfl⟩
   have hm1 : m ≤ R.length := by omega
   have Hm := Lib.hid hmm; rw [hmm] at Hsn2
   have hmin : min y.many (R.length : Int) = (m : Int) := by omega
   have Hmin := Lib.hid hmin; have HRA := Lib.hid (show Ass w1 0 (.slice ra R.length rc) R from hR.mono (Nat.zero_le _))
   have HOw1 := Lib.hid (own_belowG Hown.out ((below_alloc wr (.cells #[.string y.pos, .int .i64 y.many] 125)).trans (hb1.mono (by simp))))
   obtain ⟨rn, hrn⟩ : ∃ rn, R.length = rn := ⟨_, rfl⟩
   have Hrn := Lib.hid hrn; rw [hrn] at hRl hrc hm1 hmin Hmin HRA ⊢
   clear hfr hb1 p0 p1 hb hbA hmm hR hrn Hown Hsn; go_wp2_with fail
   go_loopw [6, 7, 31] (fun s o i wr => ∃ j : Nat, j ≤ m ∧ i = .int .i64 j ∧ s = .int .i64 (sumV (F ++ (R.take j).filter worthy)) ∧ Hid (OwnSt wr w.heap.size o (namesA (F ++ (R.take j).filter worthy))) ∧ Hid (Ass wr 0 (.slice ra rn rc) R) ∧ Below w.heap.size w wr) (fun _ _ i _ => m - (intOf i).toNat)
   case atStart => exact ⟨0, Nat.zero_le _, rfl, by simp, Lib.hid (by simp only [List.take_zero, List.filter_nil, List.append_nil]; exact HOw1.out), HRA, hb01⟩
   case round =>
    clear HOw1 hb01 hpl0 hpl1 HRA; obtain ⟨j, hj, rfl, rfl, Hown, HR1, hb⟩ := hrel; by_cases hjm : j < m
    ·rcases ass_take (m := m) (show Ass _ 0 (.slice ra R.length rc) R by rw [Hrn.out]; exact HR1.out) (by rw [Hrn.out]; exact hm1) with ⟨_, _, h⟩ | ⟨g, off, rfl, hcell⟩
     ·omega
     obtain ⟨x, hx⟩ : ∃ x, R[j]? = some x := ⟨_, List.getElem?_eq_getElem (by rw [Hrn.out]; omega)⟩
     have Hws := Lib.hid (worthy_snoc hx); obtain ⟨p0, p1, p2⟩ := hcell j x hx
     have hlG : (F ++ (R.take j).filter worthy).length ≤ 132 := by
      have h1 := List.length_filter_le worthy (R.take j); have h2 : (R.take j).length ≤ R.length := List.length_take_le' _ _
      have h3 := HlF.out; have h4 := Hrn.out; rw [List.length_append]; omega
     have hGm : ∀ z ∈ F ++ (R.take j).filter worthy, z ∈ xs := by
      intro z hz; rcases List.mem_append.1 hz with h | h
      ·exact Hfm.out z h
      ·exact HRm.out z (List.mem_of_mem_take (List.mem_filter.1 h).1)
     have hbx := HB.out [x] (fun z hz => by rw [List.mem_singleton.1 hz]; exact HRm.out x (List.mem_of_getElem? hx))
     have hvx : -1000000 ≤ x.value ∧ x.value ≤ 1000000 := by
      have e : sumV [x] = x.value := by unfold sumV; simp
      rw [e] at hbx; simpa using hbx
     obtain ⟨hvx1, hvx2⟩ := hvx; have hbG := HB.out _ hGm; have hs1 : -132000000 ≤ sumV (F ++ (R.take j).filter worthy) := by omega
     have hs2 : sumV (F ++ (R.take j).filter worthy) ≤ 132000000 := by omega
     have Hap := Lib.hid (show F ++ (R.take (j + 1)).filter worthy = (F ++ (R.take j).filter worthy) ++ (if worthy x then [x] else []) by rw [Hws.out, List.append_assoc])
     generalize F ++ (R.take j).filter worthy = G at Hown hlG hs1 hs2 Hap ⊢
     have hbB := below_step hb (below_alloc wr (.cells #[.string x.player, .string x.pos, .int .i64 x.value] 78)); clear hx hcell hGm hbx hbG Hws; by_cases hpos : 0 < x.value
     ·have e1 : decide (0 < x.value) = true := decide_eq_true hpos
      have HS := Lib.hid (show sumV (F ++ (R.take (j + 1)).filter worthy) = sumV G + x.value by rw [Hap.out, show worthy x = true from e1, if_pos rfl, sumV_one])
      have HN := Lib.hid (show namesA (F ++ (R.take (j + 1)).filter worthy) = namesA G ++ [x.player] by rw [Hap.out, show worthy x = true from e1, if_pos rfl]; unfold namesA; simp)
      have HnG := Lib.hid (show (namesA G).length = G.length by unfold namesA; simp)
      have hown := Hown.out; unfold OwnSt at hown
      rw [HnG.out] at hown
      have hownB := World.ownsRow.alloc (World.ownsRow.alloc hown (.cells #[.string x.player, .string x.pos, .int .i64 x.value] 78)) (.cells #[.string x.player] 9); generalize sumV G = s0 at hs1 hs2 HS ⊢
      clear Hap hown; go_wp2_with (at_builtin; refine wpList_append_own _ rfl _ _ 26 rfl w.heap.size 9 i0 (.string ⟨#[]⟩) 1 16 Tryz.underlying26 hi hz0 hz1 hz2 rfl (by decide) _ _ _ rfl hownB ⟨_, 0, none⟩ 1 1 [.string x.player] rfl rfl ?c1 ?c2 ?c3 ?c4 ?c5 ?_)
      case c1 => have h := cells_newG (wr.alloc (.cells #[.string x.player, .string x.pos, .int .i64 x.value] 78)) [.string x.player] 9; simpa using h
      case c2 => simp [Value.oneCell']
      case c3 => unfold maxLen; omega
      case c4 => omega
      case c5 => have := hb.size; simp; omega
      intro v' w5 hown5 hgrow _; have Hf := Lib.hid (below_step hbB (below_alloc _ (.cells #[.string x.player] 9))); have hb5 : Below w.heap.size w w5 := Hf.out.grown hgrow Hf.out.size fun r hr => (own_block hownB r hr).1
      have HR5 : Hid (Ass w5 0 (.slice (some ⟨g, off, none⟩) rn rc) R) := Lib.hid (Rows.row ((HR1.out.below (below_alloc wr (.cells #[.string x.player, .string x.pos, .int .i64 x.value] 78))).below (below_alloc _ (.cells #[.string x.player] 9))) hgrow fun r hr => by
       obtain ⟨_, cur, hc⟩ := own_block hownB r hr; exact ⟨cur, _, _, hc, by decide⟩)
      have HO5 : Hid (OwnSt w5 w.heap.size v' (namesA (F ++ (R.take (j + 1)).filter worthy))) := Lib.hid (by
       rw [HN.out]; unfold OwnSt
       rw [List.length_append, HnG.out, List.map_append]; exact hown5)
      clear hgrow hown5 hownB Hf; go_wp2_with fail
      go_roundw
      case rel => exact ⟨j + 1, by omega, by go_num, by rw [HS.out], HO5, HR5, hb5⟩
      case measure => simp [intOf]; omega
     ·have e1 : decide (0 < x.value) = false := decide_eq_false hpos
      have hnp : x.value ≤ 0 := by omega
      have HS := Lib.hid (show F ++ (R.take (j + 1)).filter worthy = G by rw [Hap.out, show worthy x = false from e1]; simp)
      have HR5 := Lib.hid (HR1.out.below (below_alloc wr (.cells #[.string x.player, .string x.pos, .int .i64 x.value] 78))); have HO5 := Lib.hid (show OwnSt _ w.heap.size _ (namesA G) from World.ownsRow.alloc Hown.out (.cells #[.string x.player, .string x.pos, .int .i64 x.value] 78))
      clear Hap; go_wp2_with fail
      go_roundw
      case rel => exact ⟨j + 1, by omega, by go_num, by rw [HS.out], by rw [HS.out]; exact HO5, HR5, hbB⟩
      case measure => simp [intOf]; omega
    ·obtain rfl : j = m := by omega
     rw [← Hsn2.out] at Hown ⊢
     clear Hsn2 HR1 HB HO; go_wp2_with fail
     go_roundw
     case rel => exact ⟨k + 1, by omega, by go_num, rfl, Hown, hb⟩
     case measure => simp [intOf]; omega
  ·obtain rfl : k = n := by omega
   rw [HE.out] at Hown ⊢
   have hlF : FF.length ≤ 120 := by
    rw [← HE.out]; have h0 := HFl.out k; have h1 : (ps.take k).length ≤ 10 := by rw [List.length_take]; omega
    have h2 : (ps.take k).length * xs.length ≤ 10 * 12 := Nat.mul_le_mul h1 hn
    omega
   have D := Lib.hid (sortS_calls w.heap.size _ (namesA FF) wr Hown.out (by unfold namesA; rw [List.length_map]; omega))
   have Hob := Lib.hid (fun r hr => (own_block Hown.out r hr).1)
   clear HE HFl HFm HB HO Hown; go_wp2_with fail
   refine D.out.mono ?_; rintro e w2 ⟨rfl, hown, hg⟩; have hb2 := hb.grown hg hb.size Hob.out; clear D hg; go_wp2_with fail
   go_ret2
   exact ⟨_, rfl, hown, hb2⟩
end Go.Proofs.YtddnnjblpgfjeaaGreatDoor
namespace Go.Proofs.YtddnnjblpgfjeaaGreatDoor
open Go.RowKit

theorem ass_one (w : World) (x : AsD) : Ass (w.alloc (.cells #[.string x.player, .string x.pos, .int .i64 x.value] 78)) w.heap.size (.slice (some ⟨w.heap.size, 0, none⟩) 1 1) [x] := by
 refine ⟨by simp, by simp [asRow], .inr ⟨w.heap.size, 0, 1, _, (0, 0), by simp, ⟨Nat.le_refl _, by simp⟩, heap_alloc_new w _, fun i j u hu => ?_⟩⟩
 match i, hu with
 | 0, hu =>
  have hu' : (asRow x)[j]? = some u := by simpa using hu
  match j, hu' with
  | 0, h => simpa [asRow] using h
  | 1, h => simpa [asRow] using h
  | 2, h => simpa [asRow] using h
 | i + 1, hu => simp at hu
set_option maxRecDepth 100000 in
set_option maxHeartbeats 1000000 in
theorem bringsFault1_calls (X : Nat) (x y : AsD) (w : World) (h : w.heap[X]? = some (.cells #[.string x.player, .string x.pos, .int .i64 x.value] 78 (0, 0))) :
  Calls Tryz.prog 114 #[.agg #[.string y.player, .string y.pos, .int .i64 y.value], .pointer (some ⟨X, 0, none⟩)] w (BoolIs (beqS y.player x.player) w) := by
 have x0 := below_cell (below_alloc w (.cells #[.string y.player, .string y.pos, .int .i64 y.value] 78)) (cell_at h 0 rfl)
 clear h
 cases hk : beqS y.player x.player
 ·have e1 : (y.player.toList == x.player.toList) = false := hk
  clear hk; go_enter Tryz.func114, Tryz.ntmps114; go_wp2_with fail
  go_ret
  exact ⟨rfl, below_alloc w _⟩
 ·have e1 : (y.player.toList == x.player.toList) = true := hk
  clear hk; go_enter Tryz.func114, Tryz.ntmps114; go_wp2_with fail
  go_ret
  exact ⟨rfl, below_alloc w _⟩
/-- What is wrong with one more, behind what is wrong with the team. -/
def moreE (xs : List AsD) (x : AsD) : Int := firstE [chkA [x], unlessE (!hasA xs x.player) 6, unlessE (decide (xs.length < 300)) 12]
set_option maxRecDepth 100000 in
set_option maxHeartbeats 2000000 in
theorem bringsFault_calls (lo : Nat) (v : Value) (xs : List AsD) (x : AsD) (w : World) (hv : Ass w lo v xs) (hn : xs.length ≤ 300) (hx : SmallA x) :
  Calls Tryz.prog 45 #[v, .agg #[.string x.player, .string x.pos, .int .i64 x.value]] w (IntBelow (moreE xs x) w) := by
 obtain ⟨W, hW⟩ : ∃ W, W = w.alloc (.cells #[.string x.player, .string x.pos, .int .i64 x.value] 78) := ⟨_, rfl⟩
 have hwW : Below w.heap.size w W := by rw [hW]; exact below_alloc w _
 have hX : W.heap[w.heap.size]? = some (.cells #[.string x.player, .string x.pos, .int .i64 x.value] 78 (0, 0)) := by rw [hW]; exact heap_alloc_new w _
 have x0 := cell_at hX 0 rfl
 have x1 := cell_at hX 1 rfl
 have x2 := cell_at hX 2 rfl
 have C1 := Lib.hid (fun W2 => asFault_calls W2.heap.size (.slice (some ⟨W2.heap.size, 0, none⟩) 1 1) [x] (W2.alloc (.cells #[.string x.player, .string x.pos, .int .i64 x.value] 78)) (ass_one W2 x) (fun c hc => by rw [List.mem_singleton.1 hc]; exact hx) (by simp))
 have C2 := Lib.hid (fun W2 (hb : Below W.heap.size W W2) => containsAs_calls 114 #[.pointer (some ⟨w.heap.size, 0, none⟩)] (fun y => beqS y.player x.player) lo v xs W2 ((hv.below hwW).below hb) (enters_of Tryz.func114 (by kernel_rfl) rfl) fun W3 y hb3 => bringsFault1_calls _ x y W3 (cells_later hX (below_step hb hb3)))
 have HE := Lib.hid (show moreE xs x = firstE [chkA [x], unlessE (!(xs.any fun y => beqS y.player x.player)) 6, unlessE (decide (xs.length < 300)) 12] from rfl)
 obtain ⟨a, c, rfl⟩ := as_shape hv
 generalize (xs.any fun y => beqS y.player x.player) = B at C2 HE
 generalize chkA [x] = K at C1 HE
 generalize moreE xs x = E at HE ⊢
 generalize xs.length = n at hn C2 HE ⊢
 have HwW := Lib.hid hwW
 clear hv hx hX hwW
 by_cases hK : K = 0
 ·have e1 : (K != 0) = false := by simp [hK]
  cases B
  ·by_cases h3 : n = 300
   ·have e2 : ((n : Int) == 300) = true := by rw [beq_iff_eq]; omega
    have HR := Lib.hid (show E = 12 by rw [HE.out, hK, h3]; rfl)
    clear hK h3; go_enter Tryz.func45, Tryz.ntmps45; go_upto_region 1 with fail
    rw [← hW]; clear hW; go_wp2_with fail
    refine (C1.out _).mono ?_; rintro e w2 ⟨rfl, hb2⟩; have hb02 := below_step (below_alloc W _) hb2; go_wp2_with fail
    refine (C2.out _ hb02).mono ?_; rintro e w3 ⟨rfl, hb3⟩; have hb := below_step HwW.out (below_step hb02 hb3); go_wp2_with fail
    go_ret
    exact ⟨ret_int HR.out.symm, hb⟩
   ·have e2 : ((n : Int) == 300) = false := by rw [beq_eq_false_iff_ne]; omega
    have HR := Lib.hid (show E = 0 by rw [HE.out, hK, decide_eq_true (show n < 300 by omega)]; rfl)
    clear hK h3; go_enter Tryz.func45, Tryz.ntmps45; go_upto_region 1 with fail
    rw [← hW]; clear hW; go_wp2_with fail
    refine (C1.out _).mono ?_; rintro e w2 ⟨rfl, hb2⟩; have hb02 := below_step (below_alloc W _) hb2; go_wp2_with fail
    refine (C2.out _ hb02).mono ?_; rintro e w3 ⟨rfl, hb3⟩; have hb := below_step HwW.out (below_step hb02 hb3); go_wp2_with fail
    go_ret
    exact ⟨ret_int HR.out.symm, hb⟩
  ·have HR := Lib.hid (show E = 6 by rw [HE.out, hK]; rfl)
   clear hK; go_enter Tryz.func45, Tryz.ntmps45; go_upto_region 1 with fail
   rw [← hW]; clear hW; go_wp2_with fail
   refine (C1.out _).mono ?_; rintro e w2 ⟨rfl, hb2⟩; have hb02 := below_step (below_alloc W _) hb2; go_wp2_with fail
   refine (C2.out _ hb02).mono ?_; rintro e w3 ⟨rfl, hb3⟩; have hb := below_step HwW.out (below_step hb02 hb3); go_wp2_with fail
   go_ret
   exact ⟨ret_int HR.out.symm, hb⟩
 ·have e1 : (K != 0) = true := by simp [hK]
  have HR := Lib.hid (show E = K by rw [HE.out]; simp [firstE, hK])
  clear hK; go_enter Tryz.func45, Tryz.ntmps45; go_upto_region 1 with fail
  rw [← hW]; clear hW; go_wp2_with fail
  refine (C1.out _).mono ?_; rintro e w2 ⟨rfl, hb2⟩; have hb := below_step HwW.out (below_step (below_alloc W _) hb2); go_wp2_with fail
  go_ret
  exact ⟨ret_int HR.out.symm, hb⟩
set_option maxRecDepth 100000 in
set_option maxHeartbeats 2000000 in
theorem bringsOf_calls (lo lo' : Nat) (v u : Value) (xs : List AsD) (ps : List PlD) (x : AsD) (w : World) (hv : Ass w lo v xs) (hP : Pls w lo' u ps) (hr : RiseA xs) (hn : xs.length ≤ 11) (hf : ∀ x ∈ xs, FitA x) (hx : FitA x) (hnew : ∀ y ∈ xs, y.player ≠ x.player) (hm : ps.length ≤ 10) (hp : ∀ y ∈ ps, 0 ≤ y.many ∧ y.many ≤ 12) :
  Calls Tryz.prog 46 #[v, u, .agg #[.string x.player, .string x.pos, .int .i64 x.value]] w (IntBelow (sumV (fieldR (withA xs x) ps) - sumV (fieldR xs ps)) w) := by
 obtain ⟨W, hW⟩ : ∃ W, W = w.alloc (.cells #[.string x.player, .string x.pos, .int .i64 x.value] 78) := ⟨_, rfl⟩
 have hwW : Below w.heap.size w W := by rw [hW]; exact below_alloc w _
 have hX : W.heap[w.heap.size]? = some (.cells #[.string x.player, .string x.pos, .int .i64 x.value] 78 (0, 0)) := by rw [hW]; exact heap_alloc_new w _
 have hwf : ∀ z ∈ withA xs x, FitA z := by
  intro z hz; rcases List.mem_append.1 ((withA_perm xs x).mem_iff.1 hz) with h | h
  ·exact hf z h
  ·rw [List.mem_singleton.1 h]; exact hx
 have hwl : (withA xs x).length = xs.length + 1 := by rw [(withA_perm xs x).length_eq]; simp
 have hwr := withA_rise hr hnew
 have C1 := Lib.hid (fieldedOf_calls lo lo' v u xs ps W (hv.below hwW) (hP.below hwW) hr (by omega) hf hm hp)
 have C2 := Lib.hid (fun W2 (hb : Below W.heap.size W W2) => with_calls lo v xs x W2 ((hv.below hwW).below hb) hn)
 have C3 := Lib.hid (fun (lo2 : Nat) (v2 : Value) W2 (h : Ass W2 lo2 v2 (withA xs x)) (hb : Below W.heap.size W W2) => fieldedOf_calls lo2 lo' v2 u (withA xs x) ps W2 h ((hP.below hwW).below hb) hwr (by omega) hwf hm hp)
 have hB1 := sumV_bound (fieldR xs ps) fun z hz => hf z (mem_fieldR hz)
 have hB2 := sumV_bound (fieldR (withA xs x) ps) fun z hz => hwf z (mem_fieldR hz)
 have hl1 := fieldR_len xs ps
 have hl2 := fieldR_len (withA xs x) ps
 have hm1 : ps.length * xs.length ≤ 10 * 12 := Nat.mul_le_mul hm (by omega)
 have hm2 : ps.length * (withA xs x).length ≤ 10 * 12 := Nat.mul_le_mul hm (by omega)
 have hs1 : -132000000 ≤ sumV (fieldR xs ps) := by omega
 have hs2 : sumV (fieldR xs ps) ≤ 132000000 := by omega
 have hs3 : -132000000 ≤ sumV (fieldR (withA xs x) ps) := by omega
 have hs4 : sumV (fieldR (withA xs x) ps) ≤ 132000000 := by omega
 have Hwl := Lib.hid (show (withA xs x).length ≤ 12 by omega)
 obtain ⟨a, c, rfl⟩ := as_shape hv
 obtain ⟨a', c', rfl⟩ := pl_shape hP
 generalize sumV (fieldR (withA xs x) ps) = s2 at C3 hs3 hs4 ⊢
 generalize sumV (fieldR xs ps) = s1 at C1 hs1 hs2 ⊢
 have x0 := cell_at hX 0 rfl
 have x1 := cell_at hX 1 rfl
 have x2 := cell_at hX 2 rfl
 have HX := Lib.hid hX
 have HwW := Lib.hid hwW
 clear hv hP hr hf hx hnew hp hX hwW hwf hwr hwl hB1 hB2 hl1 hl2 hm1 hm2
 go_enter Tryz.func46, Tryz.ntmps46
 go_upto_region 1 with fail
 rw [← hW]
 clear hW
 go_wp2_with fail
 refine C1.out.mono ?_
 rintro e w1 ⟨v1, rfl, -, hb1⟩
 have hX1 := cells_later HX.out hb1
 have y0 := cell_at hX1 0 rfl
 have y1 := cell_at hX1 1 rfl
 have y2 := cell_at hX1 2 rfl
 clear x0 x1 x2 hX1
 go_wp2_with fail
 refine (C2.out _ hb1).mono ?_
 rintro e w2 ⟨v2, hfr, rfl, hb2⟩
 have hb02 := below_step hb1 hb2
 have hA := hfr.ass (by have := Hwl.out; omega)
 have D := Lib.hid (C3.out _ _ _ hA hb02)
 obtain ⟨a2, c2, rfl⟩ := as_shape hA
 clear hA hfr C1 C2 C3
 go_wp2_with fail
 refine D.out.mono ?_
 rintro e w3 ⟨v3, rfl, -, hb3⟩
 have hb := below_step HwW.out (below_step hb02 hb3)
 go_wp2_with fail
 go_ret
 exact ⟨rfl, hb⟩
def o48_6 : Array Go.Oper := #[
 ⟨some 28, .move (.tmp 5), 9, "values.go:181", #[], none⟩,
 ⟨some 29, .binOp .eql 9 (.tmp 28) (.const (.string { data := #[] })) 9, 4, "values.go:181", #[⟨0, .data⟩], none⟩,
 ⟨some 30, .move (.tmp 29), 4, "values.go:181", #[⟨1, .data⟩], none⟩,
 ⟨some 31, .move (.tmp 6), 3, "values.go:181", #[⟨2, .guard⟩], some (2, false)⟩,
 ⟨some 32, .move (.tmp 10), 3, "values.go:181", #[⟨2, .guard⟩], some (2, false)⟩,
 ⟨some 33, .call { callee := .value (.func 67), args := #[.tmp 31, .tmp 32], argTypes := #[3, 3] }, 3, "values.go:181", #[⟨3, .data⟩, ⟨4, .data⟩, ⟨2, .chain⟩, ⟨2, .guard⟩], some (2, false)⟩,
 ⟨some 34, .fieldAddr 78 (.tmp 9) 2, 0, "values.go:181", #[⟨2, .guard⟩], some (2, false)⟩,
 ⟨some 35, .load 3 (.tmp 34), 3, "values.go:181", #[⟨6, .data⟩, ⟨2, .guard⟩], some (2, false)⟩,
 ⟨some 36, .move (.tmp 7), 3, "values.go:181", #[⟨2, .guard⟩], some (2, false)⟩,
 ⟨some 37, .call { callee := .value (.func 67), args := #[.tmp 35, .tmp 36], argTypes := #[3, 3] }, 3, "values.go:181", #[⟨7, .data⟩, ⟨8, .data⟩, ⟨5, .chain⟩, ⟨2, .guard⟩], some (2, false)⟩,
 ⟨some 38, .buildSlice 22 2 #[(0, .tmp 33), (1, .tmp 37)], 22, "values.go:181", #[⟨5, .data⟩, ⟨9, .data⟩, ⟨2, .guard⟩], some (2, false)⟩,
 ⟨some 39, .call { callee := .value (.func 65), args := #[.tmp 38], argTypes := #[22] }, 3, "values.go:181", #[⟨10, .data⟩, ⟨9, .chain⟩, ⟨2, .guard⟩], some (2, false)⟩,
 ⟨some 40, .binOp .leq 3 (.tmp 39) (.const (.int .i64 0)) 3, 4, "values.go:181", #[⟨11, .data⟩, ⟨2, .guard⟩], some (2, false)⟩,
 ⟨some 41, .pick (.tmp 30) (.const (.bool true)) (.tmp 40), 4, "values.go:181", #[⟨2, .data⟩, ⟨12, .data⟩], none⟩]
theorem o48_6_0 : o48_6[0]? = some (⟨some 28, .move (.tmp 5), 9, "values.go:181", #[], none⟩ : Go.Oper) := rfl
theorem o48_6_1 : o48_6[1]? = some (⟨some 29, .binOp .eql 9 (.tmp 28) (.const (.string { data := #[] })) 9, 4, "values.go:181", #[⟨0, .data⟩], none⟩ : Go.Oper) := rfl
theorem o48_6_2 : o48_6[2]? = some (⟨some 30, .move (.tmp 29), 4, "values.go:181", #[⟨1, .data⟩], none⟩ : Go.Oper) := rfl
theorem o48_6_3 : o48_6[3]? = some (⟨some 31, .move (.tmp 6), 3, "values.go:181", #[⟨2, .guard⟩], some (2, false)⟩ : Go.Oper) := rfl
theorem o48_6_4 : o48_6[4]? = some (⟨some 32, .move (.tmp 10), 3, "values.go:181", #[⟨2, .guard⟩], some (2, false)⟩ : Go.Oper) := rfl
theorem o48_6_5 : o48_6[5]? = some (⟨some 33, .call { callee := .value (.func 67), args := #[.tmp 31, .tmp 32], argTypes := #[3, 3] }, 3, "values.go:181", #[⟨3, .data⟩, ⟨4, .data⟩, ⟨2, .chain⟩, ⟨2, .guard⟩], some (2, false)⟩ : Go.Oper) := rfl
theorem o48_6_6 : o48_6[6]? = some (⟨some 34, .fieldAddr 78 (.tmp 9) 2, 0, "values.go:181", #[⟨2, .guard⟩], some (2, false)⟩ : Go.Oper) := rfl
theorem o48_6_7 : o48_6[7]? = some (⟨some 35, .load 3 (.tmp 34), 3, "values.go:181", #[⟨6, .data⟩, ⟨2, .guard⟩], some (2, false)⟩ : Go.Oper) := rfl
theorem o48_6_8 : o48_6[8]? = some (⟨some 36, .move (.tmp 7), 3, "values.go:181", #[⟨2, .guard⟩], some (2, false)⟩ : Go.Oper) := rfl
theorem o48_6_9 : o48_6[9]? = some (⟨some 37, .call { callee := .value (.func 67), args := #[.tmp 35, .tmp 36], argTypes := #[3, 3] }, 3, "values.go:181", #[⟨7, .data⟩, ⟨8, .data⟩, ⟨5, .chain⟩, ⟨2, .guard⟩], some (2, false)⟩ : Go.Oper) := rfl
theorem o48_6_10 : o48_6[10]? = some (⟨some 38, .buildSlice 22 2 #[(0, .tmp 33), (1, .tmp 37)], 22, "values.go:181", #[⟨5, .data⟩, ⟨9, .data⟩, ⟨2, .guard⟩], some (2, false)⟩ : Go.Oper) := rfl
theorem o48_6_11 : o48_6[11]? = some (⟨some 39, .call { callee := .value (.func 65), args := #[.tmp 38], argTypes := #[22] }, 3, "values.go:181", #[⟨10, .data⟩, ⟨9, .chain⟩, ⟨2, .guard⟩], some (2, false)⟩ : Go.Oper) := rfl
theorem o48_6_12 : o48_6[12]? = some (⟨some 40, .binOp .leq 3 (.tmp 39) (.const (.int .i64 0)) 3, 4, "values.go:181", #[⟨11, .data⟩, ⟨2, .guard⟩], some (2, false)⟩ : Go.Oper) := rfl
theorem o48_6_13 : o48_6[13]? = some (⟨some 41, .pick (.tmp 30) (.const (.bool true)) (.tmp 40), 4, "values.go:181", #[⟨2, .data⟩, ⟨12, .data⟩], none⟩ : Go.Oper) := rfl
theorem o48_6_ns : Go.Region.noSelect o48_6 = true := by kernel_rfl
def o48_7 : Array Go.Oper := #[
 ⟨some 42, .fieldAddr 78 (.tmp 9) 0, 0, "values.go:182", #[], none⟩,
 ⟨some 43, .load 9 (.tmp 42), 9, "values.go:182", #[⟨0, .data⟩], none⟩,
 ⟨some 44, .move (.tmp 10), 3, "values.go:182", #[⟨5, .gcOnly .lateStores⟩], none⟩,
 ⟨some 45, .fieldAddr 78 (.tmp 9) 2, 0, "values.go:182", #[⟨6, .gcOnly .lateStores⟩], none⟩,
 ⟨some 46, .load 3 (.tmp 45), 3, "values.go:182", #[⟨3, .data⟩, ⟨6, .gcOnly .lateStores⟩], none⟩,
 ⟨some 5, .assign (.tmp 43), 9, "values.go:182", #[⟨1, .data⟩, ⟨0, .phase⟩, ⟨1, .phase⟩, ⟨2, .textOnly .lateStores⟩, ⟨3, .textOnly .lateStores⟩, ⟨4, .textOnly .lateStores⟩], none⟩,
 ⟨some 6, .assign (.tmp 44), 3, "values.go:182", #[⟨2, .data⟩, ⟨5, .chain⟩, ⟨0, .phase⟩, ⟨1, .phase⟩, ⟨2, .phase⟩, ⟨3, .textOnly .lateStores⟩, ⟨4, .textOnly .lateStores⟩, ⟨5, .phase⟩], none⟩,
 ⟨some 7, .assign (.tmp 46), 3, "values.go:182", #[⟨4, .data⟩, ⟨6, .chain⟩, ⟨0, .phase⟩, ⟨1, .phase⟩, ⟨2, .phase⟩, ⟨3, .phase⟩, ⟨4, .phase⟩, ⟨5, .phase⟩, ⟨6, .phase⟩], none⟩]
theorem o48_7_0 : o48_7[0]? = some (⟨some 42, .fieldAddr 78 (.tmp 9) 0, 0, "values.go:182", #[], none⟩ : Go.Oper) := rfl
theorem o48_7_1 : o48_7[1]? = some (⟨some 43, .load 9 (.tmp 42), 9, "values.go:182", #[⟨0, .data⟩], none⟩ : Go.Oper) := rfl
theorem o48_7_2 : o48_7[2]? = some (⟨some 44, .move (.tmp 10), 3, "values.go:182", #[⟨5, .gcOnly .lateStores⟩], none⟩ : Go.Oper) := rfl
theorem o48_7_3 : o48_7[3]? = some (⟨some 45, .fieldAddr 78 (.tmp 9) 2, 0, "values.go:182", #[⟨6, .gcOnly .lateStores⟩], none⟩ : Go.Oper) := rfl
theorem o48_7_4 : o48_7[4]? = some (⟨some 46, .load 3 (.tmp 45), 3, "values.go:182", #[⟨3, .data⟩, ⟨6, .gcOnly .lateStores⟩], none⟩ : Go.Oper) := rfl
theorem o48_7_5 : o48_7[5]? = some (⟨some 5, .assign (.tmp 43), 9, "values.go:182", #[⟨1, .data⟩, ⟨0, .phase⟩, ⟨1, .phase⟩, ⟨2, .textOnly .lateStores⟩, ⟨3, .textOnly .lateStores⟩, ⟨4, .textOnly .lateStores⟩], none⟩ : Go.Oper) := rfl
theorem o48_7_6 : o48_7[6]? = some (⟨some 6, .assign (.tmp 44), 3, "values.go:182", #[⟨2, .data⟩, ⟨5, .chain⟩, ⟨0, .phase⟩, ⟨1, .phase⟩, ⟨2, .phase⟩, ⟨3, .textOnly .lateStores⟩, ⟨4, .textOnly .lateStores⟩, ⟨5, .phase⟩], none⟩ : Go.Oper) := rfl
theorem o48_7_7 : o48_7[7]? = some (⟨some 7, .assign (.tmp 46), 3, "values.go:182", #[⟨4, .data⟩, ⟨6, .chain⟩, ⟨0, .phase⟩, ⟨1, .phase⟩, ⟨2, .phase⟩, ⟨3, .phase⟩, ⟨4, .phase⟩, ⟨5, .phase⟩, ⟨6, .phase⟩], none⟩ : Go.Oper) := rfl
theorem o48_7_ns : Go.Region.noSelect o48_7 = true := by kernel_rfl
/-- What the others bring. -/
def restR (xs : List AsD) (ps : List PlD) (x : AsD) : Int := sumV (fieldR (lessA xs x.player) ps)
theorem strs_one (w : World) (k : ByteArray) : Strs (w.alloc (.cells #[.string k] 9)) w.heap.size (.slice (some ⟨w.heap.size, 0, none⟩) 1 1) [k] := strs_new w [k] (by simp)
set_option maxRecDepth 100000 in
set_option maxHeartbeats 8000000 in
theorem dropOf_calls (lo lo' : Nat) (v u : Value) (xs : List AsD) (ps : List PlD) (w : World) (hv : Ass w lo v xs) (hP : Pls w lo' u ps) (hr : RiseA xs) (hn : xs.length ≤ 11) (hf : ∀ x ∈ xs, FitA x) (hm : ps.length ≤ 10) (hp : ∀ y ∈ ps, 0 ≤ y.many ∧ y.many ≤ 12) :
  Calls Tryz.prog 48 #[v, u] w fun e w' => e = .returned (.string (dropR (restR xs ps) ⟨⟨#[]⟩, 0, 0⟩ xs).best) ∧ Below w.heap.size w w' := by
 have C1 := Lib.hid (fun (k : ByteArray) (lo2 : Nat) (uu : Value) (W2 : World) (h : Strs W2 lo2 uu [k]) (hb : Below w.heap.size w W2) => less_calls lo lo2 v uu xs k W2 (hv.below hb) h (by omega))
 have C2 := Lib.hid (fun (k : ByteArray) (lo2 : Nat) (v2 : Value) (W2 : World) (h : Ass W2 lo2 v2 (lessA xs k)) (hb : Below w.heap.size w W2) => fieldedOf_calls lo2 lo' v2 u (lessA xs k) ps W2 h (hP.below hb) (hr.sublist List.filter_sublist) (Nat.le_trans (List.length_filter_le _ _) (by omega)) (fun z hz => hf z (List.mem_filter.1 hz).1) hm hp)
 have HR := Lib.hid (fun (x : AsD) => show restR xs ps x = sumV (fieldR (lessA xs x.player) ps) from rfl)
 have Hll := Lib.hid (fun (k : ByteArray) => show (lessA xs k).length ≤ 12 from Nat.le_trans (List.length_filter_le _ _) (by omega))
 generalize restR xs ps = nD at HR ⊢
 have hcell0 := as_at hv
 obtain ⟨a', c', hu⟩ := pl_shape hP
 obtain ⟨a0, c0, hv0⟩ := as_shape hv
 obtain ⟨n, hnn⟩ : ∃ n, xs.length = n := ⟨_, rfl⟩
 have Hn := Lib.hid hnn
 have Hall := Lib.hid (show xs.take n = xs by rw [← hnn, List.take_length])
 have Hcell0 := Lib.hid hcell0
 rw [hnn] at hv0 Hcell0
 rw [hu] at C2 ⊢
 rw [hv0] at C1 Hcell0 ⊢
 generalize hL : (dropR nD ⟨⟨#[]⟩, 0, 0⟩ xs).best = L
 have HL := Lib.hid hL
 clear hv hP hr hf hp hcell0 hu hv0 hnn hL
 go_enter Tryz.func48, Tryz.ntmps48
 go_wp2_with fail
 go_loopw [5, 6, 7, 14] (fun b m l i wr => ∃ (k : Nat) (s : DrS), k ≤ n ∧ i = .int .i64 k ∧ b = .string s.best ∧ m = .int .i64 s.most ∧ l = .int .i64 s.least ∧ Hid (dropR nD ⟨⟨#[]⟩, 0, 0⟩ (xs.take k) = s) ∧ Below w.heap.size w wr) (fun _ _ _ i _ => n - (intOf i).toNat)
 case atStart => exact ⟨0, ⟨⟨#[]⟩, 0, 0⟩, Nat.zero_le _, rfl, rfl, rfl, rfl, Lib.hid rfl, Below.refl _ _⟩
 case round =>
  obtain ⟨k, s, hk, rfl, rfl, rfl, rfl, Hs, hb⟩ := hrel; by_cases hlt : k < n
  ·obtain ⟨x, hx⟩ : ∃ x, xs[k]? = some x := ⟨_, List.getElem?_eq_getElem (by rw [Hn.out]; exact hlt)⟩
   rcases Hcell0.out with ⟨_, h⟩ | ⟨g, off, cap, e, _, hg, _, hcell⟩
   ·rw [h] at hx; simp at hx
   simp only [Value.slice.injEq] at e
   obtain ⟨rfl, -, rfl⟩ := e; obtain ⟨q0, q1, q2⟩ := hcell k x hx; have p0 := below_cell hb q0; have p1 := below_cell hb q1; have p2 := below_cell hb q2; have Hst := Lib.hid (show dropR nD ⟨⟨#[]⟩, 0, 0⟩ (xs.take (k + 1)) = (if dropC nD s x then ⟨x.player, nD x, x.value⟩ else s) by rw [take_snocG hx, dropR_snoc, Hs.out])
   have hbA := below_step hb (below_alloc wr (.cells #[.string x.player, .string x.pos, .int .i64 x.value] 78)); have hbB := below_step hbA (below_alloc _ (.cells #[.string x.player] 9)); have hX : (wr.alloc (.cells #[.string x.player, .string x.pos, .int .i64 x.value] 78)).heap[wr.heap.size]? = some (.cells #[.string x.player, .string x.pos, .int .i64 x.value] 78 (0, 0)) := heap_alloc_new wr _
   have HX := Lib.hid (heap_alG hX (.cells #[.string x.player] 9)); have D1 := Lib.hid (C1.out x.player _ _ _ (strs_one (wr.alloc (.cells #[.string x.player, .string x.pos, .int .i64 x.value] 78)) x.player) hbB); simp only [World.size_alloc] at D1
   have HlA := Lib.hid (Hll.out x.player); have HRx := Lib.hid (HR.out x); clear hx hcell q0 q1 q2 hX; go_wp2_with fail
   refine D1.out.mono ?_; rintro e w1 ⟨v1, hfr, rfl, hb1⟩; have hb01 := below_step hbB hb1; have hA := hfr.ass (by have := HlA.out; omega)
   have D2 := Lib.hid (C2.out x.player _ _ _ hA hb01); rw [← HRx.out] at D2
   have HX1 := Lib.hid (cells_later HX.out hb1); obtain ⟨a2, c2, rfl⟩ := as_shape hA; clear hA hfr D1 HX hbA hbB hb1 HlA p0 p1 p2; go_wp2_with fail
   refine D2.out.mono ?_; rintro e w2 ⟨v2, rfl, -, hb2⟩; have hb02 := below_step hb01 hb2; have HX2 := Lib.hid (cells_later HX1.out hb2); have x0 := cell_at HX2.out 0 rfl; have x1 := cell_at HX2.out 1 rfl; have x2 := cell_at HX2.out 2 rfl; clear D2 HX1 hb01 hb2 hb; obtain ⟨nx, hnx⟩ : ∃ nx, nx = nD x := ⟨_, rfl⟩
   have HNX := Lib.hid hnx; rw [← hnx] at Hst ⊢
   clear hnx; have HS := Lib.hid (show ∀ w', Below w2.heap.size w2 w' → (Below w2.heap.size w2 w' ∧ w'.cell? ⟨wr.heap.size, 0, none⟩ = some (.string x.player) ∧ w'.cell? ⟨wr.heap.size, 2, none⟩ = some (.int .i64 x.value)) from fun w' hb => ⟨hb, below_cell hb x0, below_cell hb x2⟩)
   have hbd := (Below.refl w2.heap.size w2).drew; clear x0 x1 x2; by_cases hz : s.best.size = 0
   ·have e1 : s.best.toList.isEmpty = true := by rw [empty_of]; exact decide_eq_true hz
    have Hc := Lib.hid (show dropR nD ⟨⟨#[]⟩, 0, 0⟩ (xs.take (k + 1)) = ⟨x.player, nx, x.value⟩ by
     rw [Hst.out, if_pos]; unfold dropC
     have : s.best = ⟨#[]⟩ := by
      cases hsb : s.best with | mk a => rw [hsb] at hz; exact congrArg ByteArray.mk (Array.eq_empty_of_size_eq_zero hz)
     rw [this]; simp)
    clear hz; go_upto_region 6 with fail
    show Code.wp _ (Code.region 6 o48_6 true) _ _ _
    refine region_start 14 (fun w' => Below w2.heap.size w2 w' ∧ w'.cell? ⟨wr.heap.size, 0, none⟩ = some (.string x.player) ∧ w'.cell? ⟨wr.heap.size, 2, none⟩ = some (.int .i64 x.value)) (by kernel_rfl) rfl ?_ (fun hHeld => ?_)
    ·(exact HS.out _ (by first | exact hbd | exact hHeld.1 | exact below_step hHeld.1 (below_alloc _ _)))
    refine take_to 0 28 (bQ 14 1) (v := ?_) o48_6_0 rfl o48_6_ns (by kernel_rfl) (by kernel_rfl) (fun _ _ _ h => h) (by rfl) ?y0a (by assumption) ?_
    case y0a => intro w h; (try dsimp only at h); go_simp; try with_reducible rfl
    simp only [sE0, sE1]; refine take_to 1 29 (bQ 14 3) (v := ?_) o48_6_1 rfl o48_6_ns (by kernel_rfl) (by kernel_rfl) (fun _ _ _ h => h) (by rfl) ?y1a (by assumption) ?_
    case y1a => intro w h; (try dsimp only at h); go_simp; try with_reducible rfl
    simp only [sE0, sE1]; refine take_to 2 30 (bQ 14 7) (v := ?_) o48_6_2 rfl o48_6_ns (by kernel_rfl) (by kernel_rfl) (fun _ _ _ h => h) (by rfl) ?y2a (by assumption) ?_
    case y2a => intro w h; (try dsimp only at h); go_simp; try with_reducible rfl
    simp only [sE0, sE1]; refine skip_to 3 31 (bQ 14 15) o48_6_3 rfl o48_6_ns (by kernel_rfl) (by kernel_rfl) (fun _ _ _ h => h) (by rfl) (by assumption) ?_
    simp only [sE0, sE1]; refine skip_to 4 32 (bQ 14 31) o48_6_4 rfl o48_6_ns (by kernel_rfl) (by kernel_rfl) (fun _ _ _ h => h) (by rfl) (by assumption) ?_
    simp only [sE0, sE1]; refine skip_to 5 33 (bQ 14 63) o48_6_5 rfl o48_6_ns (by kernel_rfl) (by kernel_rfl) (fun _ _ _ h => h) (by rfl) (by assumption) ?_
    simp only [sE0, sE1]; refine skip_to 6 34 (bQ 14 127) o48_6_6 rfl o48_6_ns (by kernel_rfl) (by kernel_rfl) (fun _ _ _ h => h) (by rfl) (by assumption) ?_
    simp only [sE0, sE1]; refine skip_to 7 35 (bQ 14 255) o48_6_7 rfl o48_6_ns (by kernel_rfl) (by kernel_rfl) (fun _ _ _ h => h) (by rfl) (by assumption) ?_
    simp only [sE0, sE1]; refine skip_to 8 36 (bQ 14 511) o48_6_8 rfl o48_6_ns (by kernel_rfl) (by kernel_rfl) (fun _ _ _ h => h) (by rfl) (by assumption) ?_
    simp only [sE0, sE1]; refine skip_to 9 37 (bQ 14 1023) o48_6_9 rfl o48_6_ns (by kernel_rfl) (by kernel_rfl) (fun _ _ _ h => h) (by rfl) (by assumption) ?_
    simp only [sE0, sE1]; refine skip_to 10 38 (bQ 14 2047) o48_6_10 rfl o48_6_ns (by kernel_rfl) (by kernel_rfl) (fun _ _ _ h => h) (by rfl) (by assumption) ?_
    simp only [sE0, sE1]; refine skip_to 11 39 (bQ 14 4095) o48_6_11 rfl o48_6_ns (by kernel_rfl) (by kernel_rfl) (fun _ _ _ h => h) (by rfl) (by assumption) ?_
    simp only [sE0, sE1]; refine skip_to 12 40 (bQ 14 8191) o48_6_12 rfl o48_6_ns (by kernel_rfl) (by kernel_rfl) (fun _ _ _ h => h) (by rfl) (by assumption) ?_
    simp only [sE0, sE1]; refine take_to 13 41 (bQ 14 16383) (v := ?_) o48_6_13 rfl o48_6_ns (by kernel_rfl) (by kernel_rfl) (fun _ _ _ h => h) (by rfl) ?y13a (by assumption) ?_
    case y13a => intro w h; (try dsimp only at h); go_simp; try with_reducible rfl
    simp only [sE0, sE1]; refine wpAnyH_done (by kernel_rfl) ?_ _
    go_upto_region 7 with fail
    show Code.wp _ (Code.region 7 o48_7 true) _ _ _
    refine region_start 8 (fun w' => Below w2.heap.size w2 w' ∧ w'.cell? ⟨wr.heap.size, 0, none⟩ = some (.string x.player) ∧ w'.cell? ⟨wr.heap.size, 2, none⟩ = some (.int .i64 x.value)) (by kernel_rfl) rfl ?_ (fun hHeld => ?_)
    ·(exact HS.out _ (by first | exact below_drewG hHeld.1 | exact hHeld.1))
    refine take_to 0 42 (bQ 8 1) (v := ?_) o48_7_0 rfl o48_7_ns (by kernel_rfl) (by kernel_rfl) (fun _ _ _ h => h) (by rfl) ?y0e8 (by assumption) ?_
    case y0e8 => intro w h; (try dsimp only at h); go_simp; try with_reducible rfl
    simp only [sE0, sE1]; refine take_to 1 43 (bQ 8 3) (v := ?_) o48_7_1 rfl o48_7_ns (by kernel_rfl) (by kernel_rfl) (fun _ _ _ h => h) (by rfl) ?y1e8 (by assumption) ?_
    case y1e8 => intro w h; (try dsimp only at h); go_simp; try with_reducible rfl
    simp only [sE0, sE1]; refine take_to 2 44 (bQ 8 7) (v := ?_) o48_7_2 rfl o48_7_ns (by kernel_rfl) (by kernel_rfl) (fun _ _ _ h => h) (by rfl) ?y2e8 (by assumption) ?_
    case y2e8 => intro w h; (try dsimp only at h); go_simp; try with_reducible rfl
    simp only [sE0, sE1]; refine take_to 3 45 (bQ 8 15) (v := ?_) o48_7_3 rfl o48_7_ns (by kernel_rfl) (by kernel_rfl) (fun _ _ _ h => h) (by rfl) ?y3e8 (by assumption) ?_
    case y3e8 => intro w h; (try dsimp only at h); go_simp; try with_reducible rfl
    simp only [sE0, sE1]; refine take_to 4 46 (bQ 8 31) (v := ?_) o48_7_4 rfl o48_7_ns (by kernel_rfl) (by kernel_rfl) (fun _ _ _ h => h) (by rfl) ?y4e8 (by assumption) ?_
    case y4e8 => intro w h; (try dsimp only at h); go_simp; try with_reducible rfl
    simp only [sE0, sE1]; refine take_to 5 5 (bQ 8 63) (v := ?_) o48_7_5 rfl o48_7_ns (by kernel_rfl) (by kernel_rfl) (fun _ _ _ h => h) (by rfl) ?y5e8 (by assumption) ?_
    case y5e8 => intro w h; (try dsimp only at h); go_simp; try with_reducible rfl
    simp only [sE0, sE1]; refine take_to 6 6 (bQ 8 127) (v := ?_) o48_7_6 rfl o48_7_ns (by kernel_rfl) (by kernel_rfl) (fun _ _ _ h => h) (by rfl) ?y6e8 (by assumption) ?_
    case y6e8 => intro w h; (try dsimp only at h); go_simp; try with_reducible rfl
    simp only [sE0, sE1]; refine take_to 7 7 (bQ 8 255) (v := ?_) o48_7_7 rfl o48_7_ns (by kernel_rfl) (by kernel_rfl) (fun _ _ _ h => h) (by rfl) ?y7e8 (by assumption) ?_
    case y7e8 => intro w h; (try dsimp only at h); go_simp; try with_reducible rfl
    simp only [sE0, sE1]; refine wpAnyH_done (by kernel_rfl) ?_ _
    have hbe := below_step hb02 hHeld.1; clear hHeld HS hbd; go_wp2_with fail
    go_roundw
    case rel => exact ⟨k + 1, ⟨x.player, nx, x.value⟩, by omega, by go_num, rfl, rfl, rfl, Hc, hbe⟩
    case measure => simp [intOf]; omega
   ·have e1 : s.best.toList.isEmpty = false := by rw [empty_of]; exact decide_eq_false hz
    have hne : s.best ≠ ⟨#[]⟩ := fun e => hz (by rw [e]; rfl)
    have Hd := Lib.hid (show dropC nD s x = decide (firstE [Lib.compareInt s.most nx, Lib.compareInt x.value s.least] ≤ 0) by
     unfold dropC; rw [decide_eq_false hne, Bool.false_or, then_first, HNX.out])
    generalize hF : firstE [Lib.compareInt s.most nx, Lib.compareInt x.value s.least] = FI at Hd
    have HF := Lib.hid hF; clear hz hne hF; by_cases hle : FI ≤ 0
    ·have e2 : decide (FI ≤ 0) = true := decide_eq_true hle
     have Hc := Lib.hid (show dropR nD ⟨⟨#[]⟩, 0, 0⟩ (xs.take (k + 1)) = ⟨x.player, nx, x.value⟩ by rw [Hst.out, Hd.out, e2, if_pos rfl])
     go_upto_region 6 with fail
     show Code.wp _ (Code.region 6 o48_6 true) _ _ _
     refine region_start 14 (fun w' => Below w2.heap.size w2 w' ∧ w'.cell? ⟨wr.heap.size, 0, none⟩ = some (.string x.player) ∧ w'.cell? ⟨wr.heap.size, 2, none⟩ = some (.int .i64 x.value)) (by kernel_rfl) rfl ?_ (fun hHeld => ?_)
     ·(exact HS.out _ (by first | exact hbd | exact hHeld.1 | exact below_step hHeld.1 (below_alloc _ _)))
     refine take_to 0 28 (bQ 14 1) (v := ?_) o48_6_0 rfl o48_6_ns (by kernel_rfl) (by kernel_rfl) (fun _ _ _ h => h) (by rfl) ?y0b (by assumption) ?_
     case y0b => intro w h; (try dsimp only at h); go_simp; try with_reducible rfl
     simp only [sE0, sE1]; refine take_to 1 29 (bQ 14 3) (v := ?_) o48_6_1 rfl o48_6_ns (by kernel_rfl) (by kernel_rfl) (fun _ _ _ h => h) (by rfl) ?y1b (by assumption) ?_
     case y1b => intro w h; (try dsimp only at h); go_simp; try with_reducible rfl
     simp only [sE0, sE1]; refine take_to 2 30 (bQ 14 7) (v := ?_) o48_6_2 rfl o48_6_ns (by kernel_rfl) (by kernel_rfl) (fun _ _ _ h => h) (by rfl) ?y2b (by assumption) ?_
     case y2b => intro w h; (try dsimp only at h); go_simp; try with_reducible rfl
     simp only [sE0, sE1]; refine take_to 3 31 (bQ 14 15) (v := ?_) o48_6_3 rfl o48_6_ns (by kernel_rfl) (by kernel_rfl) (fun _ _ _ h => h) (by rfl) ?y3b (by assumption) ?_
     case y3b => intro w h; (try dsimp only at h); go_simp; try with_reducible rfl
     simp only [sE0, sE1]; refine take_to 4 32 (bQ 14 31) (v := ?_) o48_6_4 rfl o48_6_ns (by kernel_rfl) (by kernel_rfl) (fun _ _ _ h => h) (by rfl) ?y4b (by assumption) ?_
     case y4b => intro w h; (try dsimp only at h); go_simp; try with_reducible rfl
     simp only [sE0, sE1]; refine take_to 6 34 (bQ 14 95) (v := ?_) o48_6_6 rfl o48_6_ns (by kernel_rfl) (by kernel_rfl) (fun _ _ _ h => h) (by rfl) ?y6b (by assumption) ?_
     case y6b => intro w h; (try dsimp only at h); go_simp; try with_reducible rfl
     simp only [sE0, sE1]; refine take_to 7 35 (bQ 14 223) (v := ?_) o48_6_7 rfl o48_6_ns (by kernel_rfl) (by kernel_rfl) (fun _ _ _ h => h) (by rfl) ?y7b (by assumption) ?_
     case y7b => intro w h; (try dsimp only at h); go_simp; try with_reducible rfl
     simp only [sE0, sE1]; refine take_to 8 36 (bQ 14 479) (v := ?_) o48_6_8 rfl o48_6_ns (by kernel_rfl) (by kernel_rfl) (fun _ _ _ h => h) (by rfl) ?y8b (by assumption) ?_
     case y8b => intro w h; (try dsimp only at h); go_simp; try with_reducible rfl
     simp only [sE0, sE1]; refine run_to 5 (bQ 14 511) o48_6_5 (by kernel_rfl) (by kernel_rfl) (by rfl) (fun K hK => ?_)
     go_simp; refine (intCmp_calls _ _ _).mono ?_; rintro e w' ⟨rfl, rfl⟩; go_wp2_with fail
     refine hK.out _ _ ?_ (fun hHeld => ?_)
     ·(exact HS.out _ (by first | exact hbd | exact hHeld.1 | exact below_step hHeld.1 (below_alloc _ _)))
     clear hK K; try simp only [Act.put, sEt, sE0, sE1]
     refine run_to 9 (bQ 14 1023) o48_6_9 (by kernel_rfl) (by kernel_rfl) (by rfl) (fun K hK => ?_)
     go_simp; refine (intCmp_calls _ _ _).mono ?_; rintro e w' ⟨rfl, rfl⟩; go_wp2_with fail
     refine hK.out _ _ ?_ (fun hHeld => ?_)
     ·(exact HS.out _ (by first | exact hbd | exact hHeld.1 | exact below_step hHeld.1 (below_alloc _ _)))
     clear hK K; try simp only [Act.put, sEt, sE0, sE1]
     refine run_to 10 (bQ 14 2047) o48_6_10 (by kernel_rfl) (by kernel_rfl) (by rfl) (fun K hK => ?_)
     go_simp; refine hK.out _ _ ?_ (fun hHeld => ?_)
     ·(exact HS.out _ (by first | exact hbd | exact hHeld.1 | exact below_step hHeld.1 (below_alloc _ _)))
     clear hK K; try simp only [Act.put, sEt, sE0, sE1]
     refine run_to 11 (bQ 14 4095) o48_6_11 (by kernel_rfl) (by kernel_rfl) (by rfl) (fun K hK => ?_)
     go_simp; refine (orInt_calls _ 0 2 [Lib.compareInt s.most nx, Lib.compareInt x.value s.least] _ (by simp) (by exact nums2 _ _ _ _)).mono ?_
     rintro e w' ⟨rfl, rfl⟩; rw [HF.out]; go_wp2_with fail
     refine hK.out _ _ ?_ (fun hHeld => ?_)
     ·(exact HS.out _ (by first | exact hbd | exact hHeld.1 | exact below_step hHeld.1 (below_alloc _ _)))
     clear hK K; try simp only [Act.put, sEt, sE0, sE1]
     refine take_to 12 40 (bQ 14 8191) (v := ?_) o48_6_12 rfl o48_6_ns (by kernel_rfl) (by kernel_rfl) (fun _ _ _ h => h) (by rfl) ?y12b (by assumption) ?_
     case y12b => intro w h; (try dsimp only at h); go_simp; try with_reducible rfl
     simp only [sE0, sE1]; refine take_to 13 41 (bQ 14 16383) (v := ?_) o48_6_13 rfl o48_6_ns (by kernel_rfl) (by kernel_rfl) (fun _ _ _ h => h) (by rfl) ?y13b (by assumption) ?_
     case y13b => intro w h; (try dsimp only at h); go_simp; try with_reducible rfl
     simp only [sE0, sE1]; refine wpAnyH_done (by kernel_rfl) ?_ _
     go_upto_region 7 with fail
     show Code.wp _ (Code.region 7 o48_7 true) _ _ _
     refine region_start 8 (fun w' => Below w2.heap.size w2 w' ∧ w'.cell? ⟨wr.heap.size, 0, none⟩ = some (.string x.player) ∧ w'.cell? ⟨wr.heap.size, 2, none⟩ = some (.int .i64 x.value)) (by kernel_rfl) rfl ?_ (fun hHeld => ?_)
     ·(exact HS.out _ (by first | exact below_drewG hHeld.1 | exact hHeld.1))
     refine take_to 0 42 (bQ 8 1) (v := ?_) o48_7_0 rfl o48_7_ns (by kernel_rfl) (by kernel_rfl) (fun _ _ _ h => h) (by rfl) ?y0e10 (by assumption) ?_
     case y0e10 => intro w h; (try dsimp only at h); go_simp; try with_reducible rfl
     simp only [sE0, sE1]; refine take_to 1 43 (bQ 8 3) (v := ?_) o48_7_1 rfl o48_7_ns (by kernel_rfl) (by kernel_rfl) (fun _ _ _ h => h) (by rfl) ?y1e10 (by assumption) ?_
     case y1e10 => intro w h; (try dsimp only at h); go_simp; try with_reducible rfl
     simp only [sE0, sE1]; refine take_to 2 44 (bQ 8 7) (v := ?_) o48_7_2 rfl o48_7_ns (by kernel_rfl) (by kernel_rfl) (fun _ _ _ h => h) (by rfl) ?y2e10 (by assumption) ?_
     case y2e10 => intro w h; (try dsimp only at h); go_simp; try with_reducible rfl
     simp only [sE0, sE1]; refine take_to 3 45 (bQ 8 15) (v := ?_) o48_7_3 rfl o48_7_ns (by kernel_rfl) (by kernel_rfl) (fun _ _ _ h => h) (by rfl) ?y3e10 (by assumption) ?_
     case y3e10 => intro w h; (try dsimp only at h); go_simp; try with_reducible rfl
     simp only [sE0, sE1]; refine take_to 4 46 (bQ 8 31) (v := ?_) o48_7_4 rfl o48_7_ns (by kernel_rfl) (by kernel_rfl) (fun _ _ _ h => h) (by rfl) ?y4e10 (by assumption) ?_
     case y4e10 => intro w h; (try dsimp only at h); go_simp; try with_reducible rfl
     simp only [sE0, sE1]; refine take_to 5 5 (bQ 8 63) (v := ?_) o48_7_5 rfl o48_7_ns (by kernel_rfl) (by kernel_rfl) (fun _ _ _ h => h) (by rfl) ?y5e10 (by assumption) ?_
     case y5e10 => intro w h; (try dsimp only at h); go_simp; try with_reducible rfl
     simp only [sE0, sE1]; refine take_to 6 6 (bQ 8 127) (v := ?_) o48_7_6 rfl o48_7_ns (by kernel_rfl) (by kernel_rfl) (fun _ _ _ h => h) (by rfl) ?y6e10 (by assumption) ?_
     case y6e10 => intro w h; (try dsimp only at h); go_simp; try with_reducible rfl
     simp only [sE0, sE1]; refine take_to 7 7 (bQ 8 255) (v := ?_) o48_7_7 rfl o48_7_ns (by kernel_rfl) (by kernel_rfl) (fun _ _ _ h => h) (by rfl) ?y7e10 (by assumption) ?_
     case y7e10 => intro w h; (try dsimp only at h); go_simp; try with_reducible rfl
     simp only [sE0, sE1]; refine wpAnyH_done (by kernel_rfl) ?_ _
     have hbe := below_step hb02 hHeld.1; clear hHeld HS hbd; go_wp2_with fail
     go_roundw
     case rel => exact ⟨k + 1, ⟨x.player, nx, x.value⟩, by omega, by go_num, rfl, rfl, rfl, Hc, hbe⟩
     case measure => simp [intOf]; omega
    ·have e2 : decide (FI ≤ 0) = false := decide_eq_false hle
     have e3 : 0 < FI := by omega
     have Hc := Lib.hid (show dropR nD ⟨⟨#[]⟩, 0, 0⟩ (xs.take (k + 1)) = s by rw [Hst.out, Hd.out, e2]; simp)
     go_upto_region 6 with fail
     show Code.wp _ (Code.region 6 o48_6 true) _ _ _
     refine region_start 14 (fun w' => Below w2.heap.size w2 w' ∧ w'.cell? ⟨wr.heap.size, 0, none⟩ = some (.string x.player) ∧ w'.cell? ⟨wr.heap.size, 2, none⟩ = some (.int .i64 x.value)) (by kernel_rfl) rfl ?_ (fun hHeld => ?_)
     ·(exact HS.out _ (by first | exact hbd | exact hHeld.1 | exact below_step hHeld.1 (below_alloc _ _)))
     refine take_to 0 28 (bQ 14 1) (v := ?_) o48_6_0 rfl o48_6_ns (by kernel_rfl) (by kernel_rfl) (fun _ _ _ h => h) (by rfl) ?y0c (by assumption) ?_
     case y0c => intro w h; (try dsimp only at h); go_simp; try with_reducible rfl
     simp only [sE0, sE1]; refine take_to 1 29 (bQ 14 3) (v := ?_) o48_6_1 rfl o48_6_ns (by kernel_rfl) (by kernel_rfl) (fun _ _ _ h => h) (by rfl) ?y1c (by assumption) ?_
     case y1c => intro w h; (try dsimp only at h); go_simp; try with_reducible rfl
     simp only [sE0, sE1]; refine take_to 2 30 (bQ 14 7) (v := ?_) o48_6_2 rfl o48_6_ns (by kernel_rfl) (by kernel_rfl) (fun _ _ _ h => h) (by rfl) ?y2c (by assumption) ?_
     case y2c => intro w h; (try dsimp only at h); go_simp; try with_reducible rfl
     simp only [sE0, sE1]; refine take_to 3 31 (bQ 14 15) (v := ?_) o48_6_3 rfl o48_6_ns (by kernel_rfl) (by kernel_rfl) (fun _ _ _ h => h) (by rfl) ?y3c (by assumption) ?_
     case y3c => intro w h; (try dsimp only at h); go_simp; try with_reducible rfl
     simp only [sE0, sE1]; refine take_to 4 32 (bQ 14 31) (v := ?_) o48_6_4 rfl o48_6_ns (by kernel_rfl) (by kernel_rfl) (fun _ _ _ h => h) (by rfl) ?y4c (by assumption) ?_
     case y4c => intro w h; (try dsimp only at h); go_simp; try with_reducible rfl
     simp only [sE0, sE1]; refine take_to 6 34 (bQ 14 95) (v := ?_) o48_6_6 rfl o48_6_ns (by kernel_rfl) (by kernel_rfl) (fun _ _ _ h => h) (by rfl) ?y6c (by assumption) ?_
     case y6c => intro w h; (try dsimp only at h); go_simp; try with_reducible rfl
     simp only [sE0, sE1]; refine take_to 7 35 (bQ 14 223) (v := ?_) o48_6_7 rfl o48_6_ns (by kernel_rfl) (by kernel_rfl) (fun _ _ _ h => h) (by rfl) ?y7c (by assumption) ?_
     case y7c => intro w h; (try dsimp only at h); go_simp; try with_reducible rfl
     simp only [sE0, sE1]; refine take_to 8 36 (bQ 14 479) (v := ?_) o48_6_8 rfl o48_6_ns (by kernel_rfl) (by kernel_rfl) (fun _ _ _ h => h) (by rfl) ?y8c (by assumption) ?_
     case y8c => intro w h; (try dsimp only at h); go_simp; try with_reducible rfl
     simp only [sE0, sE1]; refine run_to 5 (bQ 14 511) o48_6_5 (by kernel_rfl) (by kernel_rfl) (by rfl) (fun K hK => ?_)
     go_simp; refine (intCmp_calls _ _ _).mono ?_; rintro e w' ⟨rfl, rfl⟩; go_wp2_with fail
     refine hK.out _ _ ?_ (fun hHeld => ?_)
     ·(exact HS.out _ (by first | exact hbd | exact hHeld.1 | exact below_step hHeld.1 (below_alloc _ _)))
     clear hK K; try simp only [Act.put, sEt, sE0, sE1]
     refine run_to 9 (bQ 14 1023) o48_6_9 (by kernel_rfl) (by kernel_rfl) (by rfl) (fun K hK => ?_)
     go_simp; refine (intCmp_calls _ _ _).mono ?_; rintro e w' ⟨rfl, rfl⟩; go_wp2_with fail
     refine hK.out _ _ ?_ (fun hHeld => ?_)
     ·(exact HS.out _ (by first | exact hbd | exact hHeld.1 | exact below_step hHeld.1 (below_alloc _ _)))
     clear hK K; try simp only [Act.put, sEt, sE0, sE1]
     refine run_to 10 (bQ 14 2047) o48_6_10 (by kernel_rfl) (by kernel_rfl) (by rfl) (fun K hK => ?_)
     go_simp; refine hK.out _ _ ?_ (fun hHeld => ?_)
     ·(exact HS.out _ (by first | exact hbd | exact hHeld.1 | exact below_step hHeld.1 (below_alloc _ _)))
     clear hK K; try simp only [Act.put, sEt, sE0, sE1]
     refine run_to 11 (bQ 14 4095) o48_6_11 (by kernel_rfl) (by kernel_rfl) (by rfl) (fun K hK => ?_)
     go_simp; refine (orInt_calls _ 0 2 [Lib.compareInt s.most nx, Lib.compareInt x.value s.least] _ (by simp) (by exact nums2 _ _ _ _)).mono ?_
     rintro e w' ⟨rfl, rfl⟩; rw [HF.out]; go_wp2_with fail
     refine hK.out _ _ ?_ (fun hHeld => ?_)
     ·(exact HS.out _ (by first | exact hbd | exact hHeld.1 | exact below_step hHeld.1 (below_alloc _ _)))
     clear hK K; try simp only [Act.put, sEt, sE0, sE1]
     refine take_to 12 40 (bQ 14 8191) (v := ?_) o48_6_12 rfl o48_6_ns (by kernel_rfl) (by kernel_rfl) (fun _ _ _ h => h) (by rfl) ?y12c (by assumption) ?_
     case y12c => intro w h; (try dsimp only at h); go_simp; try with_reducible rfl
     simp only [sE0, sE1]; refine take_to 13 41 (bQ 14 16383) (v := ?_) o48_6_13 rfl o48_6_ns (by kernel_rfl) (by kernel_rfl) (fun _ _ _ h => h) (by rfl) ?y13c (by assumption) ?_
     case y13c => intro w h; (try dsimp only at h); go_simp; try with_reducible rfl
     simp only [sE0, sE1]; refine wpAnyH_done (by kernel_rfl) ?_ _
     have hbe := below_step hb02 hHeld.1; clear hHeld HS hbd; go_wp2_with fail
     go_roundw
     case rel => exact ⟨k + 1, s, by omega, by go_num, rfl, rfl, rfl, Hc, hbe⟩
     case measure => simp [intOf]; omega
  ·obtain rfl : k = n := by omega
   have HL2 := Lib.hid (show s.best = L by rw [← HL.out, ← Hs.out, Hall.out])
   go_wp2_with fail
   go_ret
   exact ⟨by rw [HL2.out]; rfl, hb⟩
end Go.Proofs.YtddnnjblpgfjeaaGreatDoor
