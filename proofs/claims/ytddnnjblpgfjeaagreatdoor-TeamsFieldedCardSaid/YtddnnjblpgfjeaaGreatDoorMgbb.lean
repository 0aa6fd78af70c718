/- Assets with one more, and without some: the reference's ways. -/
import Derived.Test.YtddnnjblpgfjeaaGreatDoorMgat
import Derived.Test.YtddnnjblpgfjeaaGreatDoorMgba
import Derived.Test.YtddnnjblpgfjeaaGreatDoorMgao
import Derived.Test.YtddnnjblpgfjeaaGreatDoorMgac
namespace Go.Proofs.YtddnnjblpgfjeaaGreatDoor
open Go.RowKit

theorem containsStr_calls (lo : Nat) (v : Value) (ks : List ByteArray) (x : ByteArray) (w : World) (h : Strs w lo v ks) :
  Calls Tryz.prog 64 #[v, .string x] w fun e w' => e = .returned (.bool (Lib.containsS ks x)) ∧ w = w' := by
 rcases strs_at h with ⟨rfl, rfl⟩ | ⟨g, off, cap, rfl, hlo, hg, hn, hc⟩
 ·exact (Tryz.slices_Contains_string_empty none 0 x w).mono fun e w' ⟨h1, h2⟩ => ⟨h1, h2.symm⟩
 ·refine (Tryz.slices_Contains_string g off ks.length cap ks x w (Nat.le_refl _) (by omega) fun j hj => ?_).mono fun e w' ⟨h1, h2⟩ => ⟨by rw [h1, List.take_of_length_le (Nat.le_refl _)], h2.symm⟩
  have hj' : j < ks.length := by simpa using hj
  have := hc j ks[j] (List.getElem?_eq_getElem hj')
  simpa [hj'] using this
theorem containsS_one (k x : ByteArray) : Lib.containsS [k] x = beqS x k := by
 rw [Bool.eq_iff_iff, Lib.containsS_iff, beqS_iff]
 simp
set_option maxRecDepth 100000 in
set_option maxHeartbeats 1000000 in
theorem less1_calls (lo X : Nat) (x : AsD) (v : Value) (k : ByteArray) (w : World) (hX : w.cell? ⟨X, 0, none⟩ = some v) (hv : Strs w lo v [k]) :
  Calls Tryz.prog 157 #[.agg #[.string x.player, .string x.pos, .int .i64 x.value], .pointer (some ⟨X, 0, none⟩)] w (BoolIs (beqS x.player k) w) := by
 have hX1 := below_cell (below_alloc w (.cells #[.string x.player, .string x.pos, .int .i64 x.value] 78)) hX
 have C := Lib.hid (containsStr_calls lo v [k] x.player _ (hv.below (below_alloc w (.cells #[.string x.player, .string x.pos, .int .i64 x.value] 78))))
 rw [containsS_one] at C
 generalize beqS x.player k = R at C ⊢
 obtain ⟨a, c, rfl⟩ := strs_shape hv
 clear hX hv
 go_enter Tryz.func157, Tryz.ntmps157
 go_wp2_with fail
 refine C.out.mono ?_
 rintro e w' ⟨rfl, rfl⟩
 go_wp2_with fail
 go_ret
 exact ⟨rfl, below_alloc w _⟩
/-- Assets without those of a name. -/
def lessA (xs : List AsD) (k : ByteArray) : List AsD := xs.filter fun x => !beqS x.player k
set_option maxRecDepth 100000 in
set_option maxHeartbeats 2000000 in
theorem less_calls (lo lo' : Nat) (v u : Value) (xs : List AsD) (k : ByteArray) (w : World) (hv : Ass w lo v xs) (hu : Strs w lo' u [k]) (hn : xs.length ≤ 12) :
  Calls Tryz.prog 117 #[v, u] w (MadeAs (lessA xs k) w) := by
 obtain ⟨W, hW⟩ : ∃ W, W = w.alloc (.cells #[u] 26) := ⟨_, rfl⟩
 have hwW : Below w.heap.size w W := by rw [hW]; exact below_alloc w _
 have x0 : W.cell? ⟨w.heap.size, 0, none⟩ = some u := by rw [hW, World.cell?_alloc_at _ _ _ _ rfl]; rfl
 have hWs : W.heap.size = w.heap.size + 1 := by rw [hW]; simp
 have C := Lib.hid (cloneAs_calls lo v xs W (hv.below hwW))
 have HU := Lib.hid (hu.below hwW)
 obtain ⟨ua, uc, hue⟩ := strs_shape hu
 obtain rfl : u = .slice ua 1 uc := hue
 obtain ⟨a, c, rfl⟩ := as_shape hv
 have HX := Lib.hid x0
 have HWs := Lib.hid hWs
 have HwW := Lib.hid hwW
 have HR := Lib.hid (show lessA xs k = xs.filter fun x => !beqS x.player k from rfl)
 generalize lessA xs k = ys at HR ⊢
 clear hv hu x0 hWs hwW
 go_enter Tryz.func117, Tryz.ntmps117
 go_upto_region 1 with fail
 rw [← hW]
 clear hW
 go_wp2_with fail
 refine C.out.mono ?_
 rintro e w1 ⟨v1, hown, rfl, hb1⟩
 have hb01 := below_step HwW.out hb1
 rcases fresh_own hown with ⟨rfl, rfl⟩ | ⟨g, off, c1, rfl, hr1, hc, hl⟩
 ·have D := Lib.hid (deleteAs0_calls 157 #[.pointer (some ⟨w.heap.size, 0, none⟩)] (fun x => beqS x.player k) w1 (enters_of Tryz.func157 (by kernel_rfl) rfl) fun W2 x hb => less1_calls lo' _ x _ k W2 (below_cell hb (below_cell hb1 HX.out)) ((HU.out.below hb1).below hb))
  clear C hown hb1 HX HWs HwW; go_wp2_with fail
  refine D.out.mono ?_; rintro e w2 ⟨rfl, hb2⟩; have hb02 := below_step hb01 hb2; clear D hb2 hb01; go_wp2_with fail
  go_ret
  exact ⟨_, .inl ⟨rfl, HR.out⟩, rfl, hb02⟩
 ·have hlw : w.heap.size ≤ g := by have := HWs.out; omega
  have hU1 := HU.out.below hb1; have D := Lib.hid (deleteAs_calls 157 #[.pointer (some ⟨w.heap.size, 0, none⟩)] (fun x => beqS x.player k) 0 g off c1 xs w1 hr1 (by omega) hc (Nat.zero_le _) (enters_of Tryz.func157 (by kernel_rfl) rfl) fun W2 x hg => less1_calls lo' _ x _ k W2 (gb_cell hg (below_cell hb1 HX.out) (by have := HWs.out; omega)) (Rows.row hU1 hg (fun r hr => by cases hr; obtain ⟨cur, hcur⟩ := hr1.heap; exact ⟨cur, _, _, hcur, by decide⟩)))
  unfold LeftAs at D
  rw [← HR.out] at D
  clear C hown hr1 hU1; go_wp2_with fail
  refine D.out.mono ?_; rintro e w2 ⟨c2, rfl, hr2, hc2, hg2⟩; have hb02 := below_gbG hb01 hg2 hlw; clear D hb01 hb1; go_wp2_with fail
  go_ret
  exact ⟨_, .inr ⟨g, off, c2, rfl, hr2, hc2, hlw⟩, rfl, hb02⟩
/-- Assets with one more, by name. -/
def withA (xs : List AsD) (x : AsD) : List AsD := insL cmpWho (xs ++ [x])
theorem newsG {w W2 : World} {T : Nat} (l : List Value) (hb : Below (w.alloc (.cells l.toArray T)).heap.size (w.alloc (.cells l.toArray T)) W2) : ∀ j u, l[j]? = some u → W2.cell? ((⟨w.heap.size, 0, none⟩ : Addr).add j) = some u := by
 intro j u hu
 have := cells_newG w l T j u hu
 have hadd : (⟨w.heap.size, 0, none⟩ : Addr).add j = ⟨w.heap.size, j, none⟩ := by unfold Addr.add; split <;> simp_all
 rw [hadd] at this ⊢
 exact below_cell hb this
theorem withA_perm (xs : List AsD) (x : AsD) : (withA xs x).Perm (xs ++ [x]) := insL_perm cmpWho_ok _
theorem withA_rise {xs : List AsD} {x : AsD} (ho : RiseA xs) (hx : ∀ y ∈ xs, y.player ≠ x.player) : RiseA (withA xs x) := by
 have h1 : (withA xs x).Pairwise fun a b => a.player ≠ b.player := by
  refine List.Perm.pairwise (withA_perm xs x).symm ?_ (fun h => h.symm)
  refine List.pairwise_append.2 ⟨ho.nodup, by simp, fun a ha b hb => ?_⟩
  rw [List.mem_singleton.1 hb]; exact hx a ha
 have h2 := insL_ordered cmpWho_ok (xs ++ [x])
 refine List.Pairwise.imp₂ (R := fun a b => cmpWho a b ≤ 0) (S := fun a b => a.player ≠ b.player) (fun a b h k => ?_) h2 h1
 unfold cmpWho at *
 have : cmpS a.player b.player ≠ 0 := fun e => k (cmpS_sameC e)
 omega
def o115_1 : Array Go.Oper := #[
 ⟨some 5, .move (.tmp 0), 52, "values.go:145", #[], none⟩,
 ⟨some 6, .call { callee := .value (.func 108), args := #[.tmp 5], argTypes := #[52] }, 52, "values.go:145", #[⟨0, .data⟩], none⟩,
 ⟨some 7, .load 78 (.tmp 3), 78, "values.go:145", #[], none⟩,
 ⟨some 8, .buildSlice 52 1 #[(0, .tmp 7)], 52, "values.go:145", #[⟨2, .data⟩], none⟩,
 ⟨some 9, .call { callee := .builtin .append, args := #[.tmp 6, .tmp 8], argTypes := #[52, 52] }, 52, "values.go:145", #[⟨1, .data⟩, ⟨3, .data⟩, ⟨1, .chain⟩], none⟩,
 ⟨some 0, .assign (.tmp 9), 52, "values.go:145", #[⟨4, .data⟩, ⟨4, .chain⟩, ⟨0, .phase⟩, ⟨1, .phase⟩, ⟨2, .phase⟩, ⟨3, .phase⟩, ⟨4, .phase⟩], none⟩]
theorem o115_1_0 : o115_1[0]? = some (⟨some 5, .move (.tmp 0), 52, "values.go:145", #[], none⟩ : Go.Oper) := rfl
theorem o115_1_1 : o115_1[1]? = some (⟨some 6, .call { callee := .value (.func 108), args := #[.tmp 5], argTypes := #[52] }, 52, "values.go:145", #[⟨0, .data⟩], none⟩ : Go.Oper) := rfl
theorem o115_1_2 : o115_1[2]? = some (⟨some 7, .load 78 (.tmp 3), 78, "values.go:145", #[], none⟩ : Go.Oper) := rfl
theorem o115_1_3 : o115_1[3]? = some (⟨some 8, .buildSlice 52 1 #[(0, .tmp 7)], 52, "values.go:145", #[⟨2, .data⟩], none⟩ : Go.Oper) := rfl
theorem o115_1_4 : o115_1[4]? = some (⟨some 9, .call { callee := .builtin .append, args := #[.tmp 6, .tmp 8], argTypes := #[52, 52] }, 52, "values.go:145", #[⟨1, .data⟩, ⟨3, .data⟩, ⟨1, .chain⟩], none⟩ : Go.Oper) := rfl
theorem o115_1_5 : o115_1[5]? = some (⟨some 0, .assign (.tmp 9), 52, "values.go:145", #[⟨4, .data⟩, ⟨4, .chain⟩, ⟨0, .phase⟩, ⟨1, .phase⟩, ⟨2, .phase⟩, ⟨3, .phase⟩, ⟨4, .phase⟩], none⟩ : Go.Oper) := rfl
set_option maxRecDepth 100000 in
set_option maxHeartbeats 4000000 in
theorem with_calls (lo : Nat) (v : Value) (xs : List AsD) (x : AsD) (w : World) (hv : Ass w lo v xs) (hn : xs.length ≤ 11) :
  Calls Tryz.prog 115 #[v, .agg #[.string x.player, .string x.pos, .int .i64 x.value]] w (MadeAs (withA xs x) w) := by
 obtain ⟨i0, hi, hz0, hz1, hz2⟩ := info_parts info_As
 obtain ⟨W, hW⟩ : ∃ W, W = w.alloc (.cells #[.string x.player, .string x.pos, .int .i64 x.value] 78) := ⟨_, rfl⟩
 have hwW : Below w.heap.size w W := by rw [hW]; exact below_alloc w _
 have hx : W.heap[w.heap.size]? = some (.cells #[.string x.player, .string x.pos, .int .i64 x.value] 78 (0, 0)) := by rw [hW]; exact heap_alloc_new w _
 have x0 := cell_at hx 0 rfl
 have x1 := cell_at hx 1 rfl
 have x2 := cell_at hx 2 rfl
 have hWs : W.heap.size = w.heap.size + 1 := by rw [hW]; simp
 have C := Lib.hid (fun W2 (hb : Below W.heap.size W W2) => cloneAs_calls lo v xs W2 ((hv.below hwW).below hb))
 have HS := Lib.hid (show ∀ w', Below W.heap.size W w' → (Below W.heap.size W w' ∧ w'.cell? ⟨w.heap.size, 0, none⟩ = some (.string x.player) ∧ w'.cell? ⟨w.heap.size, 1, none⟩ = some (.string x.pos) ∧ w'.cell? ⟨w.heap.size, 2, none⟩ = some (.int .i64 x.value)) from fun w' hb => ⟨hb, below_cell hb x0, below_cell hb x1, below_cell hb x2⟩)
 obtain ⟨a, c, rfl⟩ := as_shape hv
 have HWs := Lib.hid hWs
 have HwW := Lib.hid hwW
 obtain ⟨R, hR0⟩ : ∃ R, withA xs x = R := ⟨_, rfl⟩
 have HR0 := Lib.hid hR0
 rw [hR0]
 clear hR0
 have hb0 := (Below.refl W.heap.size W).drew
 have hsz : W.drew.heap.size = w.heap.size + 1 := hWs
 have Hsz := Lib.hid hsz
 clear hv x0 x1 x2 hx hWs hwW hsz
 go_enter Tryz.func115, Tryz.ntmps115
 go_upto_region 1 with fail
 rw [← hW]
 clear hW
 show Code.wp _ (Code.region 1 o115_1 true) _ _ _
 refine regionC_start 6 (fun w' => Below W.heap.size W w' ∧ w'.cell? ⟨w.heap.size, 0, none⟩ = some (.string x.player) ∧ w'.cell? ⟨w.heap.size, 1, none⟩ = some (.string x.pos) ∧ w'.cell? ⟨w.heap.size, 2, none⟩ = some (.int .i64 x.value)) (fun j => [1, 2, 3].contains j) (by kernel_rfl) rfl ?_
 generalize W.drew = w1 at hb0 ⊢
 have hC := HS.out w1 hb0
 refine takeC 0 5 (v := ?_) o115_1_0 rfl (by kernel_rfl) (by kernel_rfl) (by kernel_rfl) (by rfl) (fun _ _ _ h => h) (by rfl) ?y0_1 ?_
 case y0_1 => intro w; go_simp; try with_reducible rfl
 simp only [sE0, sE1]
 refine loadC 2 7 (v := ?_) o115_1_2 rfl (by kernel_rfl) (by kernel_rfl) (by kernel_rfl) (by kernel_rfl) (fun _ _ _ h => h) (by rfl) ?y2_2 (by exact hC) ?_
 case y2_2 => intro w h; (try dsimp only at h); go_simp; try with_reducible rfl
 simp only [sE0, sE1]
 refine readyC (rs := [1, 3]) (by kernel_rfl) (by simp) (each_cons (runC o115_1_1 (by rfl) (fun K hK => ?_)) (each_cons (runC o115_1_3 (by rfl) (fun K hK => ?_)) each_nil))
 ·go_simp
  refine (C.out _ hC.1).mono ?_; rintro e w1 ⟨v1, hown, rfl, hbc⟩; replace hown := World.ownsRow.mono hown (show w.heap.size ≤ _ by have h1 := hC.1.size; have h2 := HWs.out; omega)
  replace hC := HS.out _ (below_step hC.1 hbc); go_wp2_with fail
  refine hK.out _ _ (fun _ => ?_) ?_
  ·(exact hC)
  clear hK K; try simp only [Act.put, sEt, sE0, sE1]
  refine readyC (rs := [3]) (by kernel_rfl) (by simp) (each_cons (runC o115_1_3 (by rfl) (fun K hK => ?_)) each_nil)
  have HN := Lib.hid (fun W2 (hb : Below (w1.alloc (.cells #[.string x.player, .string x.pos, .int .i64 x.value] 78)).heap.size (w1.alloc (.cells #[.string x.player, .string x.pos, .int .i64 x.value] 78)) W2) => newsG [.string x.player, .string x.pos, .int .i64 x.value] hb)
  go_simp; replace hC := HS.out _ (below_step hC.1 (below_alloc w1 (.cells #[.string x.player, .string x.pos, .int .i64 x.value] 78))); refine hK.out _ _ (fun _ => ?_) ?_
  ·(exact hC)
  clear hK K; try simp only [Act.put, sEt, sE0, sE1]
  refine readyC (rs := [4]) (by kernel_rfl) (by simp) (each_cons (runC o115_1_4 (by rfl) (fun K hK => ?_)) each_nil)
  first | (refine wp_append_at _ (.tmp 6) (.tmp 8) 52 rfl w.heap.size 78 i0 (.agg #[.string ⟨#[]⟩, .string ⟨#[]⟩, .int .i64 0]) 3 40 Tryz.underlying52 hi hz0 hz1 hz2 rfl (by decide) v1 xs.length _ rfl (hown) _ 1 1 [.string x.player, .string x.pos, .int .i64 x.value] rfl rfl (HN.out _ (hbc)) (by simp [Value.oneCell']) (by unfold maxLen; omega) (by omega) (by have h1 := hC.1.size; have h2 := HWs.out; omega) ?_) | (refine wp_append_at _ (.tmp 6) (.tmp 8) 52 rfl w.heap.size 78 i0 (.agg #[.string ⟨#[]⟩, .string ⟨#[]⟩, .int .i64 0]) 3 40 Tryz.underlying52 hi hz0 hz1 hz2 rfl (by decide) v1 xs.length _ rfl (World.ownsRow.alloc hown _) _ 1 1 [.string x.player, .string x.pos, .int .i64 x.value] rfl rfl (HN.out _ (Below.refl _ _)) (by simp [Value.oneCell']) (by unfold maxLen; omega) (by omega) (by have h1 := hC.1.size; have h2 := HWs.out; omega) ?_)
  intro v2 w2 hown2 hgrow; have hbF : Below w.heap.size w w2 := (below_step HwW.out hC.1).grown hgrow (by have h1 := hC.1.size; have h2 := HWs.out; omega) (fun r hr => by first | exact (own_block hown r hr).1 | exact (own_block (World.ownsRow.alloc hown _) r hr).1)
  refine hK.out _ _ (fun h => absurd h (by decide)) ?_
  clear hK K; try simp only [Act.put, sEt, sE0, sE1]
  refine takeC 5 0 (v := ?_) o115_1_5 rfl (by kernel_rfl) (by kernel_rfl) (by kernel_rfl) (by rfl) (fun _ _ _ h => h) (by rfl) ?y5_3 ?_
  case y5_3 => intro w; go_simp; try with_reducible rfl
  simp only [sE0, sE1]; refine doneC (by kernel_rfl) ?_ _
  clear hgrow hown hC HN HS C
  have hownF : OwnAs w2 w.heap.size v2 (xs ++ [x]) := by
   unfold OwnAs; have e : ((xs ++ [x]).map asRow).flatten = (xs.map asRow).flatten ++ [.string x.player, .string x.pos, .int .i64 x.value] := by simp [asRow]
   rw [e, List.length_append]; exact hown2
  rcases fresh_own hownF with ⟨_, h⟩ | ⟨g, off, c1, rfl, hr, hc, hl⟩
  ·simp at h
  skip
  have D := Lib.hid (sortAs_calls cmpWho 152 #[] g off c1 (xs ++ [x]) w2 hr (by simp; omega) (enters_of Tryz.func152 (by kernel_rfl) rfl) fun W x y _ => whoCmp_calls x y W)
  have HL := Lib.hid (show (withA xs x).length = (xs ++ [x]).length from insL_len cmpWho (xs ++ [x]))
  have HI := Lib.hid (show insL cmpWho (xs ++ [x]) = withA xs x from rfl)
  unfold SortedAs at D
  rw [HI.out] at D
  rw [HR0.out] at D HL
  generalize (xs ++ [x]).length = n at D HL hc
  clear hownF hown2 hr HI; go_wp2_with fail
  refine D.out.mono ?_; rintro e w3 ⟨rfl, hr3, hg3⟩; clear D; go_wp2_with fail
  go_ret
  exact ⟨_, .inr ⟨g, off, c1, by rw [HL.out]; rfl, hr3, by rw [HL.out]; exact hc, hl⟩, rfl, below_gbG hbF hg3 hl⟩
 ·have HN := Lib.hid (fun W2 (hb : Below (w1.alloc (.cells #[.string x.player, .string x.pos, .int .i64 x.value] 78)).heap.size (w1.alloc (.cells #[.string x.player, .string x.pos, .int .i64 x.value] 78)) W2) => newsG [.string x.player, .string x.pos, .int .i64 x.value] hb)
  go_simp; replace hC := HS.out _ (below_step hC.1 (below_alloc w1 (.cells #[.string x.player, .string x.pos, .int .i64 x.value] 78))); refine hK.out _ _ (fun _ => ?_) ?_
  ·(exact hC)
  clear hK K; try simp only [Act.put, sEt, sE0, sE1]
  refine readyC (rs := [1]) (by kernel_rfl) (by simp) (each_cons (runC o115_1_1 (by rfl) (fun K hK => ?_)) each_nil)
  go_simp; refine (C.out _ hC.1).mono ?_; rintro e w1 ⟨v1, hown, rfl, hbc⟩; replace hown := World.ownsRow.mono hown (show w.heap.size ≤ _ by have h1 := hC.1.size; have h2 := HWs.out; omega)
  replace hC := HS.out _ (below_step hC.1 hbc); go_wp2_with fail
  refine hK.out _ _ (fun _ => ?_) ?_
  ·(exact hC)
  clear hK K; try simp only [Act.put, sEt, sE0, sE1]
  refine readyC (rs := [4]) (by kernel_rfl) (by simp) (each_cons (runC o115_1_4 (by rfl) (fun K hK => ?_)) each_nil)
  first | (refine wp_append_at _ (.tmp 6) (.tmp 8) 52 rfl w.heap.size 78 i0 (.agg #[.string ⟨#[]⟩, .string ⟨#[]⟩, .int .i64 0]) 3 40 Tryz.underlying52 hi hz0 hz1 hz2 rfl (by decide) v1 xs.length _ rfl (hown) _ 1 1 [.string x.player, .string x.pos, .int .i64 x.value] rfl rfl (HN.out _ (hbc)) (by simp [Value.oneCell']) (by unfold maxLen; omega) (by omega) (by have h1 := hC.1.size; have h2 := HWs.out; omega) ?_) | (refine wp_append_at _ (.tmp 6) (.tmp 8) 52 rfl w.heap.size 78 i0 (.agg #[.string ⟨#[]⟩, .string ⟨#[]⟩, .int .i64 0]) 3 40 Tryz.underlying52 hi hz0 hz1 hz2 rfl (by decide) v1 xs.length _ rfl (World.ownsRow.alloc hown _) _ 1 1 [.string x.player, .string x.pos, .int .i64 x.value] rfl rfl (HN.out _ (Below.refl _ _)) (by simp [Value.oneCell']) (by unfold maxLen; omega) (by omega) (by have h1 := hC.1.size; have h2 := HWs.out; omega) ?_)
  intro v2 w2 hown2 hgrow; have hbF : Below w.heap.size w w2 := (below_step HwW.out hC.1).grown hgrow (by have h1 := hC.1.size; have h2 := HWs.out; omega) (fun r hr => by first | exact (own_block hown r hr).1 | exact (own_block (World.ownsRow.alloc hown _) r hr).1)
  refine hK.out _ _ (fun h => absurd h (by decide)) ?_
  clear hK K; try simp only [Act.put, sEt, sE0, sE1]
  refine takeC 5 0 (v := ?_) o115_1_5 rfl (by kernel_rfl) (by kernel_rfl) (by kernel_rfl) (by rfl) (fun _ _ _ h => h) (by rfl) ?y5_4 ?_
  case y5_4 => intro w; go_simp; try with_reducible rfl
  simp only [sE0, sE1]; refine doneC (by kernel_rfl) ?_ _
  clear hgrow hown hC HN HS C
  have hownF : OwnAs w2 w.heap.size v2 (xs ++ [x]) := by
   unfold OwnAs; have e : ((xs ++ [x]).map asRow).flatten = (xs.map asRow).flatten ++ [.string x.player, .string x.pos, .int .i64 x.value] := by simp [asRow]
   rw [e, List.length_append]; exact hown2
  rcases fresh_own hownF with ⟨_, h⟩ | ⟨g, off, c1, rfl, hr, hc, hl⟩
  ·simp at h
  skip
  have D := Lib.hid (sortAs_calls cmpWho 152 #[] g off c1 (xs ++ [x]) w2 hr (by simp; omega) (enters_of Tryz.func152 (by kernel_rfl) rfl) fun W x y _ => whoCmp_calls x y W)
  have HL := Lib.hid (show (withA xs x).length = (xs ++ [x]).length from insL_len cmpWho (xs ++ [x]))
  have HI := Lib.hid (show insL cmpWho (xs ++ [x]) = withA xs x from rfl)
  unfold SortedAs at D
  rw [HI.out] at D
  rw [HR0.out] at D HL
  generalize (xs ++ [x]).length = n at D HL hc
  clear hownF hown2 hr HI; go_wp2_with fail
  refine D.out.mono ?_; rintro e w3 ⟨rfl, hr3, hg3⟩; clear D; go_wp2_with fail
  go_ret
  exact ⟨_, .inr ⟨g, off, c1, by rw [HL.out]; rfl, hr3, by rw [HL.out]; exact hc, hl⟩, rfl, below_gbG hbF hg3 hl⟩
end Go.Proofs.YtddnnjblpgfjeaaGreatDoor
