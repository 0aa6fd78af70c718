/- Whom to drop. -/
import Derived.Test.YtddnnjblpgfjeaaGreatDoorMgay
import Derived.Test.YtddnnjblpgfjeaaGreatDoorMgbd
import Derived.Test.YtddnnjblpgfjeaaGreatDoorMgav
import Derived.Test.YtddnnjblpgfjeaaGreatDoorMgam
import Derived.Test.YtddnnjblpgfjeaaGreatDoorMgap
import Derived.Test.YtddnnjblpgfjeaaGreatDoorMgaw
/- What a pool brings. -/
namespace Go.Proofs.YtddnnjblpgfjeaaGreatDoor
open Go.RowKit

theorem fldP_len (p : List PlD) (has : ByteArray → Bool) : ∀ (cs : List (AsD × Nat)) (m : List Nat), (fldP p has cs m).length ≤ cs.length
 | [], _ => by simp [fldP]
 | c :: cs, m => by
  unfold fldP; split
  ·have := fldP_len p has cs (m.set c.2 (m[c.2]?.getD 0 + 1)); simp; omega
  ·have := fldP_len p has cs m; simp; omega
theorem everybody_calls (k : ByteArray) (w : World) : Calls Tryz.prog 106 #[.string k] w (BoolIs true w) := by
 go_enter Tryz.func106, Tryz.ntmps106
 go_wp2_with fail
 go_ret
 exact ⟨rfl, Below.refl _ _⟩
theorem but1_calls (X : Nat) (k one : ByteArray) (w : World) (hX : w.cell? ⟨X, 0, none⟩ = some (.string one)) :
  Calls Tryz.prog 149 #[.string k, .pointer (some ⟨X, 0, none⟩)] w (BoolIs (!beqS k one) w) := by
 cases hk : beqS k one
 ·have e1 : (k.toList == one.toList) = false := hk
  have e2 : (k.toList != one.toList) = true := by rw [bne, e1]; rfl
  clear hk; go_enter Tryz.func149, Tryz.ntmps149; go_wp2_with fail
  go_ret
  exact ⟨rfl, Below.refl _ _⟩
 ·have e1 : (k.toList == one.toList) = true := hk
  have e2 : (k.toList != one.toList) = false := by rw [bne, e1]; rfl
  clear hk; go_enter Tryz.func149, Tryz.ntmps149; go_wp2_with fail
  go_ret
  exact ⟨rfl, Below.refl _ _⟩
theorem but_calls (k : ByteArray) (w : World) :
  Calls Tryz.prog 110 #[.string k] w fun e w' => e = .returned (.func (.func 149) #[] #[.pointer (some ⟨w.heap.size, 0, none⟩)]) ∧ Below w.heap.size w w' ∧ w'.cell? ⟨w.heap.size, 0, none⟩ = some (.string k) := by
 go_enter Tryz.func110, Tryz.ntmps110
 go_wp2_with fail
 go_ret
 exact ⟨rfl, below_alloc w _, by rw [World.cell?_alloc_at _ _ _ _ rfl]; rfl⟩
def sumC (cs : List (AsD × Nat)) : Int := sumV (cs.map Prod.fst)
theorem sumC_snoc {cs : List (AsD × Nat)} {k : Nat} {c : AsD × Nat} (h : cs[k]? = some c) : sumC (cs.take (k + 1)) = sumC (cs.take k) + c.1.value := by
 unfold sumC
 rw [take_snocG h, List.map_append]
 exact sumV_one _ _
theorem sumC_bound (cs : List (AsD × Nat)) (h : ∀ c ∈ cs, FitA c.1) (hl : cs.length ≤ 1000) (k : Nat) : -1000000000 ≤ sumC (cs.take k) ∧ sumC (cs.take k) ≤ 1000000000 := by
 have h1 := sumV_bound ((cs.take k).map Prod.fst) (fun x hx => by
  obtain ⟨c, hc, rfl⟩ := List.mem_map.1 hx; exact h c (List.mem_of_mem_take hc))
 have h2 : ((cs.take k).map Prod.fst).length ≤ 1000 := by rw [List.length_map, List.length_take]; omega
 unfold sumC
 omega
theorem most_calls (lo lo' : Nat) (u cv : Value) (ps : List PlD) (cs : List (AsD × Nat)) (has : ByteArray → Bool) (G : Nat) (caps : Array Value) (w : World) (hP : Pls w lo' u ps) (hC : Cas w lo cv cs) (hl : ∀ c ∈ cs, c.2 < ps.length) (hm : ps.length ≤ 1000) (hn : cs.length ≤ 1000) (hps : ∀ y ∈ ps, SmallP y) (hf : ∀ c ∈ cs, FitA c.1)
  (eg : ∀ args w, (callFunc G args).run Tryz.prog w = .ok (.enter G args) w) (hp : ∀ (W : World) (k : ByteArray), Below w.heap.size w W → Calls Tryz.prog G (#[.string k] ++ caps) W (BoolIs (has k) W)) :
  Calls Tryz.prog 109 #[.agg #[u, cv], .func (.func G) #[] caps] w (IntBelow (sumC (fldP ps has cs (List.replicate ps.length 0))) w) := by
 have hb0 := below_alloc w (.cells #[u, cv] 142)
 have D := Lib.hid (fielded_calls lo lo' u cv ps cs has G caps (w.alloc (.cells #[u, cv] 142)) (hP.below hb0) (hC.below hb0) hl hm hn hps eg (fun W k h => hp W k (below_step hb0 h)))
 have hFl := fldP_len ps has cs (List.replicate ps.length 0)
 have hFm := fun c hc => hf c (fldP_sub ps has cs (List.replicate ps.length 0) c hc)
 obtain ⟨FP, hFP⟩ : ∃ FP, fldP ps has cs (List.replicate ps.length 0) = FP := ⟨_, rfl⟩
 rw [hFP] at D hFl hFm ⊢
 have HB := Lib.hid (sumC_bound FP hFm (by omega))
 obtain ⟨ua, uc, hu⟩ := pl_shape hP
 obtain ⟨ca, cc, hc⟩ := ca_shape hC
 rw [hu, hc] at D ⊢
 obtain ⟨np, hnp⟩ : ∃ np, ps.length = np := ⟨_, rfl⟩
 obtain ⟨nc, hnc⟩ : ∃ nc, cs.length = nc := ⟨_, rfl⟩
 rw [hnp, hnc] at D ⊢
 obtain ⟨n, hnn⟩ : ∃ n, FP.length = n := ⟨_, rfl⟩
 have Hn := Lib.hid hnn
 have Hall := Lib.hid (show sumC (FP.take n) = sumC FP by rw [← hnn, List.take_length])
 have hn2 : n ≤ 1000 := by omega
 clear hP hC hl hps hf hp hb0 hFl hFm hFP hu hc hnp hnc hnn
 go_enter Tryz.func109, Tryz.ntmps109
 go_wp2_with fail
 refine D.out.mono ?_
 rintro e w1 ⟨v1, hown, rfl, hb1⟩
 have hbw := below_step (below_alloc w (.cells #[.slice ua np uc, .slice ca nc cc] 142)) hb1
 have hA := ca_of_owns hown (by rw [Hn.out]; omega)
 have HCat := Lib.hid (ca_at hA)
 obtain ⟨va, vc, rfl⟩ := ca_shape hA
 rw [Hn.out] at HCat ⊢
 clear hown hA D hb1
 go_wp2_with fail
 go_loopw [5, 12] (fun s i wr => ∃ k : Nat, k ≤ n ∧ i = .int .i64 k ∧ s = .int .i64 (sumC (FP.take k)) ∧ Below w1.heap.size w1 wr) (fun _ i _ => n - (intOf i).toNat)
 case atStart => exact ⟨0, Nat.zero_le _, rfl, by simp [sumC, sumV], Below.refl _ _⟩
 case round =>
  obtain ⟨k, hk, rfl, rfl, hb⟩ := hrel; by_cases hlt : k < n
  ·obtain ⟨c, hc⟩ : ∃ c, FP[k]? = some c := ⟨_, List.getElem?_eq_getElem (by rw [Hn.out]; exact hlt)⟩
   rcases HCat.out with ⟨_, h⟩ | ⟨g, off, cap, e, _, hgl, _, hcell⟩
   ·rw [h] at hc; simp at hc
   simp only [Value.slice.injEq] at e
   obtain ⟨rfl, -, rfl⟩ := e; obtain ⟨q0, q1, q2, q3⟩ := hcell k c hc; have p0 := below_cell hb q0; have p1 := below_cell hb q1; have p2 := below_cell hb q2; have p3 := below_cell hb q3; have HS := Lib.hid (sumC_snoc hc); obtain ⟨hb1, hb2⟩ := HB.out k; obtain ⟨hb3, hb4⟩ := HB.out (k + 1); rw [HS.out] at hb3 hb4
   generalize sumC (FP.take k) = s0 at HS hb1 hb2 hb3 hb4 ⊢
   have hbe := below_step hb (below_alloc wr (.cells #[.string c.1.player, .string c.1.pos, .int .i64 c.1.value, .int .i64 ((c.2 : Nat) : Int)] 146)); clear hc hcell q0 q1 q2 q3; go_wp2_with fail
   go_roundw
   case rel => exact ⟨k + 1, by omega, by go_num, by rw [HS.out], hbe⟩
   case measure => simp [intOf]; omega
  ·obtain rfl : k = n := by omega
   have hbe := below_step hbw hb; go_wp2_with fail
   go_ret
   exact ⟨by rw [← Hall.out]; rfl, hbe⟩
end Go.Proofs.YtddnnjblpgfjeaaGreatDoor
/- Fielded. -/
namespace Go.Proofs.YtddnnjblpgfjeaaGreatDoor
open Go.RowKit

theorem cands_len (p : List PlD) (l : List AsD) : (cands p l).length ≤ l.length := by
 unfold cands
 refine Nat.le_trans (List.length_filterMap_le _ _) ?_
 rw [(rank_perm l).length_eq]
 exact Nat.le_refl _
theorem cands_mem {p : List PlD} {l : List AsD} {c : AsD × Nat} (h : c ∈ cands p l) : c.1 ∈ l := by
 unfold cands at h
 obtain ⟨x, hx, he⟩ := List.mem_filterMap.1 h
 have hx' := (rank_perm l).mem_iff.1 hx
 unfold candOf at he
 split at he
 ·obtain ⟨i, _, rfl⟩ := Option.map_eq_some_iff.1 he
  exact hx'
 ·cases he
def TheAll : ByteArray → Bool := fun _ => true
def NilThree (f : Int) (w : World) (e : Ending) (w' : World) : Prop := e = .returned (.tuple #[.int .i64 0, .slice none 0 0, .int .i64 f]) ∧ Below w.heap.size w w'
theorem fieldedF_wrong (lo lo' : Nat) (v u : Value) (xs : List AsD) (ps : List PlD) (w : World) (hR : Ass w lo v xs) (hs : ∀ c ∈ xs, SmallA c) (hn : xs.length ≤ 1000000) (hP : Pls w lo' u ps) (hp : ∀ c ∈ ps, SmallP c) (hm : ps.length ≤ 1000000) (he : teamE xs ps ≠ 0) :
  Calls Tryz.prog 42 #[v, u] w (NilThree (teamE xs ps) w) := by
 have D := Lib.hid (wrongTeam_calls lo lo' v u xs ps w hR hs hn hP hp hm)
 obtain ⟨a, c, rfl⟩ := as_shape hR
 obtain ⟨pa, pc, rfl⟩ := pl_shape hP
 generalize teamE xs ps = E at D he ⊢
 generalize xs.length = n at D ⊢
 generalize ps.length = m at D ⊢
 have e1 : decide (E = 0) = false := decide_eq_false he
 clear hR hs hn hP hp hm
 go_enter Tryz.func42, Tryz.ntmps42
 go_wp2_with fail
 refine D.out.mono ?_
 rintro e w1 ⟨rfl, hb1⟩
 clear D
 go_wp2_with fail
 go_ret3
 exact ⟨rfl, hb1⟩
def ThreeOf (s : Int) (ks : List ByteArray) (w : World) (e : Ending) (w' : World) : Prop := ∃ v, e = .returned (.tuple #[.int .i64 s, v, .int .i64 0]) ∧ OwnSt w' w.heap.size v ks ∧ Below w.heap.size w w'
theorem fieldedF_right (lo lo' : Nat) (v u : Value) (xs : List AsD) (ps : List PlD) (w : World) (hR : Ass w lo v xs) (hs : ∀ c ∈ xs, SmallA c) (hn : xs.length ≤ 12) (hP : Pls w lo' u ps) (hp : ∀ c ∈ ps, SmallP c) (hm : ps.length ≤ 10) (ho : OnceP ps) (hf : ∀ x ∈ xs, FitA x) (he : teamE xs ps = 0) :
  Calls Tryz.prog 42 #[v, u] w (ThreeOf (sumC (fieldP ps TheAll xs)) (sortL (namesA ((fieldP ps TheAll xs).map Prod.fst))) w) := by
 obtain ⟨i0, hi, hz0, hz1, hz2⟩ := info_parts info_str
 have D := Lib.hid (wrongTeam_calls lo lo' v u xs ps w hR hs (by omega) hP hp (by omega))
 rw [he] at D
 have D2 := Lib.hid (fun (W : World) (h : Below w.heap.size w W) => poolOf_calls lo lo' v u xs ps W (hR.below h) (hP.below h) hn hs (by omega) hp ho)
 have D3 := Lib.hid (fun (W : World) (h : Below w.heap.size w W) (l : Nat) (cv : Value) (hC : Cas W l cv (cands ps xs)) => fielded_calls l lo' u cv ps (cands ps xs) TheAll 106 #[] W (hP.below h) hC (fun c hc => cands_lt c hc) (by omega) (by have := cands_len ps xs; omega) hp (enters_of Tryz.func106 (by kernel_rfl) rfl) (fun W' k _ => by rw [Array.append_empty]; exact everybody_calls k W'))
 have hFl : (fieldP ps TheAll xs).length ≤ 12 := Nat.le_trans (fldP_len _ _ _ _) (Nat.le_trans (cands_len ps xs) hn)
 have hFm : ∀ c ∈ fieldP ps TheAll xs, FitA c.1 := fun c hc => hf _ (cands_mem (fldP_sub _ _ _ _ c hc))
 have hCl := Lib.hid (show (cands ps xs).length ≤ 12 from Nat.le_trans (cands_len ps xs) hn)
 change Hid (∀ (W : World) (h : Below w.heap.size w W) (l : Nat) (cv : Value) (hC : Cas W l cv (cands ps xs)), Calls Tryz.prog 105 #[.agg #[u, cv], .func (.func 106) #[] #[]] W (MadeCa (fieldP ps TheAll xs) W)) at D3
 generalize fieldP ps TheAll xs = FP at D3 hFl hFm ⊢
 generalize cands ps xs = CS at D2 D3 hCl
 have HB := Lib.hid (sumC_bound FP hFm (by omega))
 have HFm := Lib.hid hFm
 obtain ⟨a, c, rfl⟩ := as_shape hR
 obtain ⟨pa, pc, rfl⟩ := pl_shape hP
 generalize xs.length = nx at D D2 D3 ⊢
 generalize ps.length = np at D D2 D3 ⊢
 obtain ⟨n, hnn⟩ : ∃ n, FP.length = n := ⟨_, rfl⟩
 have Hn := Lib.hid hnn
 have Hall := Lib.hid (show FP.take n = FP by rw [← hnn, List.take_length])
 have hn2 : n ≤ 12 := by omega
 clear hR hs hn hP hp hm ho hf he hFl hFm hnn
 go_enter Tryz.func42, Tryz.ntmps42
 go_wp2_with fail
 refine D.out.mono ?_
 rintro e w1 ⟨rfl, hb1⟩
 have E2 := Lib.hid (D2.out _ hb1)
 clear D D2
 go_wp2_with fail
 refine E2.out.mono ?_
 rintro e w2 ⟨cv, rfl, hC, hb2⟩
 have hb02 := below_step hb1 hb2
 have E3 := Lib.hid (D3.out _ hb02 _ cv hC)
 obtain ⟨ca, cc, rfl⟩ := ca_shape hC
 generalize CS.length = nc at E3 ⊢
 clear E2 D3 hC hb2 hb1
 go_wp2_with fail
 refine E3.out.mono ?_
 rintro e w3 ⟨v3, hown, rfl, hb3⟩
 have hb03 := below_step hb02 hb3
 have hA := ca_of_owns hown (by rw [Hn.out]; omega)
 have HCat := Lib.hid (show Cas w3 0 v3 FP from hA.mono (Nat.zero_le _))
 obtain ⟨va, vc, rfl⟩ := ca_shape hA
 rw [Hn.out] at HCat ⊢
 clear hown hA E3 hb3 hb02
 go_wp2_with fail
 go_loopw [8, 9, 23] (fun s o i wr => ∃ k : Nat, k ≤ n ∧ i = .int .i64 k ∧ s = .int .i64 (sumC (FP.take k)) ∧ Hid (OwnSt wr w.heap.size o (namesA ((FP.take k).map Prod.fst))) ∧ Hid (Cas wr 0 (.slice va n vc) FP) ∧ Below w.heap.size w wr) (fun _ _ i _ => n - (intOf i).toNat)
 case atStart => exact ⟨0, Nat.zero_le _, rfl, by simp [sumC, sumV], Lib.hid (by simpa [namesA, OwnSt] using World.ownsRow_nil _ _ _ _), HCat, hb03⟩
 case round =>
  clear HCat hb03; obtain ⟨k, hk, rfl, rfl, Hown, HC, hb⟩ := hrel; by_cases hlt : k < n
  ·obtain ⟨c, hc⟩ : ∃ c, FP[k]? = some c := ⟨_, List.getElem?_eq_getElem (by rw [Hn.out]; exact hlt)⟩
   rcases ca_at HC.out with ⟨_, h⟩ | ⟨g, off, cap, e, _, hgl, _, hcell⟩
   ·rw [h] at hc; simp at hc
   simp only [Value.slice.injEq] at e
   obtain ⟨rfl, -, rfl⟩ := e; obtain ⟨p0, p1, p2, p3⟩ := hcell k c hc; have HS := Lib.hid (sumC_snoc hc); have HN := Lib.hid (show namesA ((FP.take (k + 1)).map Prod.fst) = namesA ((FP.take k).map Prod.fst) ++ [c.1.player] by rw [take_snocG hc]; unfold namesA; simp)
   obtain ⟨hc1, hc2⟩ := HB.out k; obtain ⟨hc3, hc4⟩ := HB.out (k + 1); rw [HS.out] at hc3 hc4
   generalize sumC (FP.take k) = s0 at HS hc1 hc2 hc3 hc4 ⊢
   have hkl : (namesA ((FP.take k).map Prod.fst)).length ≤ 12 := by unfold namesA; rw [List.length_map, List.length_map, List.length_take]; omega
   generalize namesA ((FP.take k).map Prod.fst) = KS at Hown HN hkl
   have hown := Hown.out; unfold OwnSt at hown
   have hownB := World.ownsRow.alloc (World.ownsRow.alloc hown (.cells #[.string c.1.player, .string c.1.pos, .int .i64 c.1.value, .int .i64 ((c.2 : Nat) : Int)] 146)) (.cells #[.string c.1.player] 9); have hbB := below_step hb (below_alloc wr (.cells #[.string c.1.player, .string c.1.pos, .int .i64 c.1.value, .int .i64 ((c.2 : Nat) : Int)] 146)); clear hc hcell hown; go_wp2_with (at_builtin; refine wpList_append_own _ rfl _ _ 26 rfl w.heap.size 9 i0 (.string ⟨#[]⟩) 1 16 Tryz.underlying26 hi hz0 hz1 hz2 rfl (by decide) _ _ _ rfl hownB ⟨_, 0, none⟩ 1 1 [.string c.1.player] rfl rfl ?c1 ?c2 ?c3 ?c4 ?c5 ?_)
   case c1 => have h := cells_newG (wr.alloc (.cells #[.string c.1.player, .string c.1.pos, .int .i64 c.1.value, .int .i64 ((c.2 : Nat) : Int)] 146)) [.string c.1.player] 9; simpa using h
   case c2 => simp [Value.oneCell']
   case c3 => unfold maxLen; omega
   case c4 => omega
   case c5 => have := hb.size; simp; omega
   intro v' w5 hown5 hgrow _; have Hf := Lib.hid (below_step hbB (below_alloc _ (.cells #[.string c.1.player] 9))); have hb5 : Below w.heap.size w w5 := Hf.out.grown hgrow Hf.out.size fun r hr => (own_block hownB r hr).1
   have HR5 : Hid (Cas w5 0 (.slice (some ⟨g, off, none⟩) n vc) FP) := Lib.hid (Rows.row ((HC.out.below (below_alloc wr (.cells #[.string c.1.player, .string c.1.pos, .int .i64 c.1.value, .int .i64 ((c.2 : Nat) : Int)] 146))).below (below_alloc _ (.cells #[.string c.1.player] 9))) hgrow fun r hr => by
    obtain ⟨_, cur, hc⟩ := own_block hownB r hr; exact ⟨cur, _, _, hc, by decide⟩)
   have HO5 : Hid (OwnSt w5 w.heap.size v' (namesA ((FP.take (k + 1)).map Prod.fst))) := Lib.hid (by
    rw [HN.out]; unfold OwnSt
    rw [List.length_append, List.map_append]; exact hown5)
   clear hgrow hown5 hownB Hf; go_wp2_with fail
   go_roundw
   case rel => exact ⟨k + 1, by omega, by go_num, by rw [HS.out], HO5, HR5, hb5⟩
   case measure => simp [intOf]; omega
  ·obtain rfl : k = n := by omega
   rw [Hall.out] at Hown ⊢
   have D := Lib.hid (sortS_calls w.heap.size _ (namesA (FP.map Prod.fst)) wr Hown.out (by unfold namesA; rw [List.length_map, List.length_map, Hn.out]; omega))
   have Hob := Lib.hid (fun r hr => (own_block Hown.out r hr).1)
   clear Hown HC; go_wp2_with fail
   refine D.out.mono ?_; rintro e w2 ⟨rfl, hown, hg⟩; have hb2 := hb.grown hg hb.size Hob.out; clear D hg; go_wp2_with fail
   go_ret3
   exact ⟨_, rfl, hown, hb2⟩
end Go.Proofs.YtddnnjblpgfjeaaGreatDoor
/- What one more brings: the program's way. -/
namespace Go.Proofs.YtddnnjblpgfjeaaGreatDoor
open Go.RowKit

theorem news_below {w w' : World} (hb : Below w.heap.size w w') {g : Nat} {l : List Value} (h : ∀ j u, l[j]? = some u → w.cell? ((⟨g, 0, none⟩ : Addr).add j) = some u) : ∀ j u, l[j]? = some u → w'.cell? ((⟨g, 0, none⟩ : Addr).add j) = some u := by
 intro j u hu
 have := h j u hu
 have hadd : (⟨g, 0, none⟩ : Addr).add j = ⟨g, j, none⟩ := by unfold Addr.add; split <;> simp_all
 rw [hadd] at this ⊢
 exact below_cell hb this
theorem wrap_subG {a b : Int} (h1 : -1000000000 ≤ a) (h2 : a ≤ 1000000000) (h3 : -1000000000 ≤ b) (h4 : b ≤ 1000000000) : IntKind.i64.wrap (a - b) = a - b := by
 exact IntWalk.i64_in _ (by omega)
theorem pool_put {w : World} {g lo : Nat} (hZ : w.heap[g]? = some (.cells #[.slice none 0 0, .slice none 0 0] 142 (0, 0))) (hl : lo ≤ g) (a b : Value) : ∃ gz w5, g = gz ∧ w5 = (w.setCell ⟨gz, 0, none⟩ a).setCell ⟨gz, 1, none⟩ b ∧ w.heap[gz]? = some (.cells #[.slice none 0 0, .slice none 0 0] 142 (0, 0)) ∧ w5.heap[gz]? = some (.cells #[a, b] 142 (0, 0)) ∧ w.grownBy w5 (some gz) ∧ lo ≤ gz :=
 ⟨g, _, rfl, rfl, hZ, by simp [World.setCell, Array.getElem?_modify, hZ], gb_trans (gb_setCell _ _ _ _) (gb_setCell _ _ _ _), hl⟩
/-- Whether the search finds one, whatever the order. -/
def isB (xs : List AsD) (k : ByteArray) : Bool := bsCB (kAt (fun x => cmpS x.player k) xs) xs.length
theorem isInB_calls (lo : Nat) (v : Value) (xs : List AsD) (k : ByteArray) (w : World) (hv : Ass w lo v xs) :
  Calls Tryz.prog 107 #[v, .string k] w (BoolIs (isB xs k) w) := by
 have C := Lib.hid (searchAs_calls 148 #[] (.string k) (fun x => cmpS x.player k) lo v xs w hv (enters_of Tryz.func148 (by kernel_rfl) rfl) fun W x _ => isIn1_calls x k W)
 obtain ⟨a, c, rfl⟩ := as_shape hv
 unfold FoundC at C
 have HI := Lib.hid (show bsCB (kAt (fun x => cmpS x.player k) xs) xs.length = isB xs k from rfl)
 rw [HI.out] at C
 generalize isB xs k = R at C ⊢
 generalize bsCI _ _ = I at C
 clear hv HI
 go_enter Tryz.func107, Tryz.ntmps107
 go_wp2_with fail
 refine C.out.mono ?_
 rintro e w1 ⟨rfl, hb⟩
 go_wp2_with fail
 go_ret
 exact ⟨rfl, hb⟩
def brE (xs : List AsD) (ps : List PlD) (x : AsD) : Int := firstE [teamE xs ps, chkA [x], unlessE (!isB xs x.player) 6, unlessE (decide ((xs.length : Int) < 300)) 12]
def NumErr (n f : Int) (w : World) (e : Ending) (w' : World) : Prop := e = .returned (.tuple #[.int .i64 n, .int .i64 f]) ∧ Below w.heap.size w w'
def o43_1 : Array Go.Oper := #[
 ⟨some 10, .move (.tmp 0), 52, "field.go:29", #[], none⟩,
 ⟨some 11, .move (.tmp 1), 54, "field.go:29", #[], none⟩,
 ⟨some 12, .call { callee := .value (.func 103), args := #[.tmp 10, .tmp 11], argTypes := #[52, 54] }, 34, "field.go:30", #[⟨0, .data⟩, ⟨1, .data⟩], none⟩,
 ⟨some 13, .load 78 (.tmp 5), 78, "field.go:29", #[], none⟩,
 ⟨some 14, .buildSlice 52 1 #[(0, .tmp 13)], 52, "field.go:29", #[⟨3, .data⟩], none⟩,
 ⟨some 15, .call { callee := .value (.func 28), args := #[.tmp 14], argTypes := #[52] }, 34, "field.go:31", #[⟨4, .data⟩, ⟨2, .chain⟩], none⟩,
 ⟨some 16, .move (.tmp 0), 52, "field.go:29", #[], none⟩,
 ⟨some 17, .fieldAddr 78 (.tmp 5) 0, 0, "field.go:29", #[], none⟩,
 ⟨some 18, .load 9 (.tmp 17), 9, "field.go:29", #[⟨7, .data⟩], none⟩,
 ⟨some 19, .call { callee := .value (.func 107), args := #[.tmp 16, .tmp 18], argTypes := #[52, 9] }, 4, "field.go:32", #[⟨6, .data⟩, ⟨8, .data⟩, ⟨5, .chain⟩], none⟩,
 ⟨some 20, .unOp .not 4 (.tmp 19), 4, "field.go:29", #[⟨9, .data⟩], none⟩,
 ⟨some 21, .call { callee := .value (.func 70), args := #[.tmp 20, .const (.int .i64 6)], argTypes := #[4, 34] }, 34, "field.go:32", #[⟨10, .data⟩, ⟨9, .chain⟩], none⟩,
 ⟨some 22, .move (.tmp 0), 52, "field.go:29", #[], none⟩,
 ⟨some 23, .call { callee := .builtin .len, args := #[.tmp 22], argTypes := #[52] }, 3, "field.go:29", #[⟨12, .data⟩], none⟩,
 ⟨some 24, .binOp .lss 3 (.tmp 23) (.const (.int .i64 300)) 3, 4, "field.go:29", #[⟨13, .data⟩], none⟩,
 ⟨some 25, .call { callee := .value (.func 70), args := #[.tmp 24, .const (.int .i64 12)], argTypes := #[4, 34] }, 34, "field.go:33", #[⟨14, .data⟩, ⟨11, .chain⟩], none⟩,
 ⟨some 26, .buildSlice 134 4 #[(0, .tmp 12), (1, .tmp 15), (2, .tmp 21), (3, .tmp 25)], 134, "field.go:29", #[⟨2, .data⟩, ⟨5, .data⟩, ⟨11, .data⟩, ⟨15, .data⟩], none⟩,
 ⟨some 27, .call { callee := .value (.func 33), args := #[.tmp 26], argTypes := #[134] }, 34, "field.go:29", #[⟨16, .data⟩, ⟨15, .chain⟩], none⟩,
 ⟨some 8, .assign (.tmp 27), 34, "field.go:29", #[⟨17, .data⟩, ⟨17, .chain⟩, ⟨0, .phase⟩, ⟨1, .phase⟩, ⟨2, .phase⟩, ⟨3, .phase⟩, ⟨4, .phase⟩, ⟨5, .phase⟩, ⟨6, .phase⟩, ⟨7, .phase⟩, ⟨8, .phase⟩, ⟨9, .phase⟩, ⟨10, .phase⟩, ⟨11, .phase⟩, ⟨12, .phase⟩, ⟨13, .phase⟩, ⟨14, .phase⟩, ⟨15, .phase⟩, ⟨16, .phase⟩, ⟨17, .phase⟩], none⟩]
theorem o43_1_0 : o43_1[0]? = some (⟨some 10, .move (.tmp 0), 52, "field.go:29", #[], none⟩ : Go.Oper) := rfl
theorem o43_1_1 : o43_1[1]? = some (⟨some 11, .move (.tmp 1), 54, "field.go:29", #[], none⟩ : Go.Oper) := rfl
theorem o43_1_2 : o43_1[2]? = some (⟨some 12, .call { callee := .value (.func 103), args := #[.tmp 10, .tmp 11], argTypes := #[52, 54] }, 34, "field.go:30", #[⟨0, .data⟩, ⟨1, .data⟩], none⟩ : Go.Oper) := rfl
theorem o43_1_3 : o43_1[3]? = some (⟨some 13, .load 78 (.tmp 5), 78, "field.go:29", #[], none⟩ : Go.Oper) := rfl
theorem o43_1_4 : o43_1[4]? = some (⟨some 14, .buildSlice 52 1 #[(0, .tmp 13)], 52, "field.go:29", #[⟨3, .data⟩], none⟩ : Go.Oper) := rfl
theorem o43_1_5 : o43_1[5]? = some (⟨some 15, .call { callee := .value (.func 28), args := #[.tmp 14], argTypes := #[52] }, 34, "field.go:31", #[⟨4, .data⟩, ⟨2, .chain⟩], none⟩ : Go.Oper) := rfl
theorem o43_1_6 : o43_1[6]? = some (⟨some 16, .move (.tmp 0), 52, "field.go:29", #[], none⟩ : Go.Oper) := rfl
theorem o43_1_7 : o43_1[7]? = some (⟨some 17, .fieldAddr 78 (.tmp 5) 0, 0, "field.go:29", #[], none⟩ : Go.Oper) := rfl
theorem o43_1_8 : o43_1[8]? = some (⟨some 18, .load 9 (.tmp 17), 9, "field.go:29", #[⟨7, .data⟩], none⟩ : Go.Oper) := rfl
theorem o43_1_9 : o43_1[9]? = some (⟨some 19, .call { callee := .value (.func 107), args := #[.tmp 16, .tmp 18], argTypes := #[52, 9] }, 4, "field.go:32", #[⟨6, .data⟩, ⟨8, .data⟩, ⟨5, .chain⟩], none⟩ : Go.Oper) := rfl
theorem o43_1_10 : o43_1[10]? = some (⟨some 20, .unOp .not 4 (.tmp 19), 4, "field.go:29", #[⟨9, .data⟩], none⟩ : Go.Oper) := rfl
theorem o43_1_11 : o43_1[11]? = some (⟨some 21, .call { callee := .value (.func 70), args := #[.tmp 20, .const (.int .i64 6)], argTypes := #[4, 34] }, 34, "field.go:32", #[⟨10, .data⟩, ⟨9, .chain⟩], none⟩ : Go.Oper) := rfl
theorem o43_1_12 : o43_1[12]? = some (⟨some 22, .move (.tmp 0), 52, "field.go:29", #[], none⟩ : Go.Oper) := rfl
theorem o43_1_13 : o43_1[13]? = some (⟨some 23, .call { callee := .builtin .len, args := #[.tmp 22], argTypes := #[52] }, 3, "field.go:29", #[⟨12, .data⟩], none⟩ : Go.Oper) := rfl
theorem o43_1_14 : o43_1[14]? = some (⟨some 24, .binOp .lss 3 (.tmp 23) (.const (.int .i64 300)) 3, 4, "field.go:29", #[⟨13, .data⟩], none⟩ : Go.Oper) := rfl
theorem o43_1_15 : o43_1[15]? = some (⟨some 25, .call { callee := .value (.func 70), args := #[.tmp 24, .const (.int .i64 12)], argTypes := #[4, 34] }, 34, "field.go:33", #[⟨14, .data⟩, ⟨11, .chain⟩], none⟩ : Go.Oper) := rfl
theorem o43_1_16 : o43_1[16]? = some (⟨some 26, .buildSlice 134 4 #[(0, .tmp 12), (1, .tmp 15), (2, .tmp 21), (3, .tmp 25)], 134, "field.go:29", #[⟨2, .data⟩, ⟨5, .data⟩, ⟨11, .data⟩, ⟨15, .data⟩], none⟩ : Go.Oper) := rfl
theorem o43_1_17 : o43_1[17]? = some (⟨some 27, .call { callee := .value (.func 33), args := #[.tmp 26], argTypes := #[134] }, 34, "field.go:29", #[⟨16, .data⟩, ⟨15, .chain⟩], none⟩ : Go.Oper) := rfl
theorem o43_1_18 : o43_1[18]? = some (⟨some 8, .assign (.tmp 27), 34, "field.go:29", #[⟨17, .data⟩, ⟨17, .chain⟩, ⟨0, .phase⟩, ⟨1, .phase⟩, ⟨2, .phase⟩, ⟨3, .phase⟩, ⟨4, .phase⟩, ⟨5, .phase⟩, ⟨6, .phase⟩, ⟨7, .phase⟩, ⟨8, .phase⟩, ⟨9, .phase⟩, ⟨10, .phase⟩, ⟨11, .phase⟩, ⟨12, .phase⟩, ⟨13, .phase⟩, ⟨14, .phase⟩, ⟨15, .phase⟩, ⟨16, .phase⟩, ⟨17, .phase⟩], none⟩ : Go.Oper) := rfl
def o43_4 : Array Go.Oper := #[
 ⟨some 31, .move (.tmp 0), 52, "field.go:37", #[], none⟩,
 ⟨some 32, .call { callee := .value (.func 108), args := #[.tmp 31], argTypes := #[52] }, 52, "field.go:37", #[⟨0, .data⟩], none⟩,
 ⟨some 33, .load 78 (.tmp 5), 78, "field.go:37", #[], none⟩,
 ⟨some 34, .buildSlice 52 1 #[(0, .tmp 33)], 52, "field.go:37", #[⟨2, .data⟩], none⟩,
 ⟨some 35, .call { callee := .builtin .append, args := #[.tmp 32, .tmp 34], argTypes := #[52, 52] }, 52, "field.go:37", #[⟨1, .data⟩, ⟨3, .data⟩, ⟨1, .chain⟩], none⟩,
 ⟨some 36, .move (.tmp 1), 54, "field.go:37", #[], none⟩,
 ⟨some 37, .call { callee := .value (.func 104), args := #[.tmp 35, .tmp 36], argTypes := #[52, 54] }, 142, "field.go:37", #[⟨4, .data⟩, ⟨5, .data⟩, ⟨4, .chain⟩], none⟩,
 ⟨some 9, .alloc 142, 0, "field.go:37", #[], none⟩,
 ⟨none, .store 142 (.tmp 9) (.tmp 37), 0, "field.go:37", #[⟨7, .data⟩, ⟨6, .data⟩, ⟨6, .chain⟩, ⟨0, .phase⟩, ⟨1, .phase⟩, ⟨2, .phase⟩, ⟨3, .phase⟩, ⟨4, .phase⟩, ⟨5, .phase⟩, ⟨6, .phase⟩, ⟨7, .phase⟩], none⟩]
theorem o43_4_0 : o43_4[0]? = some (⟨some 31, .move (.tmp 0), 52, "field.go:37", #[], none⟩ : Go.Oper) := rfl
theorem o43_4_1 : o43_4[1]? = some (⟨some 32, .call { callee := .value (.func 108), args := #[.tmp 31], argTypes := #[52] }, 52, "field.go:37", #[⟨0, .data⟩], none⟩ : Go.Oper) := rfl
theorem o43_4_2 : o43_4[2]? = some (⟨some 33, .load 78 (.tmp 5), 78, "field.go:37", #[], none⟩ : Go.Oper) := rfl
theorem o43_4_3 : o43_4[3]? = some (⟨some 34, .buildSlice 52 1 #[(0, .tmp 33)], 52, "field.go:37", #[⟨2, .data⟩], none⟩ : Go.Oper) := rfl
theorem o43_4_4 : o43_4[4]? = some (⟨some 35, .call { callee := .builtin .append, args := #[.tmp 32, .tmp 34], argTypes := #[52, 52] }, 52, "field.go:37", #[⟨1, .data⟩, ⟨3, .data⟩, ⟨1, .chain⟩], none⟩ : Go.Oper) := rfl
theorem o43_4_5 : o43_4[5]? = some (⟨some 36, .move (.tmp 1), 54, "field.go:37", #[], none⟩ : Go.Oper) := rfl
theorem o43_4_6 : o43_4[6]? = some (⟨some 37, .call { callee := .value (.func 104), args := #[.tmp 35, .tmp 36], argTypes := #[52, 54] }, 142, "field.go:37", #[⟨4, .data⟩, ⟨5, .data⟩, ⟨4, .chain⟩], none⟩ : Go.Oper) := rfl
theorem o43_4_7 : o43_4[7]? = some (⟨some 9, .alloc 142, 0, "field.go:37", #[], none⟩ : Go.Oper) := rfl
theorem o43_4_8 : o43_4[8]? = some (⟨none, .store 142 (.tmp 9) (.tmp 37), 0, "field.go:37", #[⟨7, .data⟩, ⟨6, .data⟩, ⟨6, .chain⟩, ⟨0, .phase⟩, ⟨1, .phase⟩, ⟨2, .phase⟩, ⟨3, .phase⟩, ⟨4, .phase⟩, ⟨5, .phase⟩, ⟨6, .phase⟩, ⟨7, .phase⟩], none⟩ : Go.Oper) := rfl
def o43_5 : Array Go.Oper := #[
 ⟨some 38, .load 142 (.tmp 9), 142, "field.go:38", #[], none⟩,
 ⟨some 39, .call { callee := .value (.func 109), args := #[.tmp 38, .func 106], argTypes := #[142, 127] }, 3, "field.go:38", #[⟨0, .data⟩], none⟩,
 ⟨some 40, .load 142 (.tmp 9), 142, "field.go:38", #[], none⟩,
 ⟨some 41, .fieldAddr 78 (.tmp 5) 0, 0, "field.go:38", #[], none⟩,
 ⟨some 42, .load 9 (.tmp 41), 9, "field.go:38", #[⟨3, .data⟩], none⟩,
 ⟨some 43, .call { callee := .value (.func 110), args := #[.tmp 42], argTypes := #[9] }, 127, "field.go:38", #[⟨4, .data⟩, ⟨1, .chain⟩], none⟩,
 ⟨some 44, .call { callee := .value (.func 109), args := #[.tmp 40, .tmp 43], argTypes := #[142, 127] }, 3, "field.go:38", #[⟨2, .data⟩, ⟨5, .data⟩, ⟨5, .chain⟩], none⟩,
 ⟨some 45, .binOp .sub 3 (.tmp 39) (.tmp 44) 3, 3, "field.go:38", #[⟨1, .data⟩, ⟨6, .data⟩], none⟩,
 ⟨some 6, .assign (.tmp 45), 3, "field.go:38", #[⟨7, .data⟩, ⟨6, .chain⟩, ⟨0, .phase⟩, ⟨1, .phase⟩, ⟨2, .phase⟩, ⟨3, .phase⟩, ⟨4, .phase⟩, ⟨5, .phase⟩, ⟨6, .phase⟩, ⟨7, .phase⟩], none⟩,
 ⟨some 7, .assign (.const (.int .i64 0)), 34, "field.go:38", #[⟨8, .chain⟩, ⟨0, .phase⟩, ⟨1, .phase⟩, ⟨2, .phase⟩, ⟨3, .phase⟩, ⟨4, .phase⟩, ⟨5, .phase⟩, ⟨6, .phase⟩, ⟨7, .phase⟩, ⟨8, .phase⟩], none⟩]
theorem o43_5_0 : o43_5[0]? = some (⟨some 38, .load 142 (.tmp 9), 142, "field.go:38", #[], none⟩ : Go.Oper) := rfl
theorem o43_5_1 : o43_5[1]? = some (⟨some 39, .call { callee := .value (.func 109), args := #[.tmp 38, .func 106], argTypes := #[142, 127] }, 3, "field.go:38", #[⟨0, .data⟩], none⟩ : Go.Oper) := rfl
theorem o43_5_2 : o43_5[2]? = some (⟨some 40, .load 142 (.tmp 9), 142, "field.go:38", #[], none⟩ : Go.Oper) := rfl
theorem o43_5_3 : o43_5[3]? = some (⟨some 41, .fieldAddr 78 (.tmp 5) 0, 0, "field.go:38", #[], none⟩ : Go.Oper) := rfl
theorem o43_5_4 : o43_5[4]? = some (⟨some 42, .load 9 (.tmp 41), 9, "field.go:38", #[⟨3, .data⟩], none⟩ : Go.Oper) := rfl
theorem o43_5_5 : o43_5[5]? = some (⟨some 43, .call { callee := .value (.func 110), args := #[.tmp 42], argTypes := #[9] }, 127, "field.go:38", #[⟨4, .data⟩, ⟨1, .chain⟩], none⟩ : Go.Oper) := rfl
theorem o43_5_6 : o43_5[6]? = some (⟨some 44, .call { callee := .value (.func 109), args := #[.tmp 40, .tmp 43], argTypes := #[142, 127] }, 3, "field.go:38", #[⟨2, .data⟩, ⟨5, .data⟩, ⟨5, .chain⟩], none⟩ : Go.Oper) := rfl
theorem o43_5_7 : o43_5[7]? = some (⟨some 45, .binOp .sub 3 (.tmp 39) (.tmp 44) 3, 3, "field.go:38", #[⟨1, .data⟩, ⟨6, .data⟩], none⟩ : Go.Oper) := rfl
theorem o43_5_8 : o43_5[8]? = some (⟨some 6, .assign (.tmp 45), 3, "field.go:38", #[⟨7, .data⟩, ⟨6, .chain⟩, ⟨0, .phase⟩, ⟨1, .phase⟩, ⟨2, .phase⟩, ⟨3, .phase⟩, ⟨4, .phase⟩, ⟨5, .phase⟩, ⟨6, .phase⟩, ⟨7, .phase⟩], none⟩ : Go.Oper) := rfl
theorem o43_5_9 : o43_5[9]? = some (⟨some 7, .assign (.const (.int .i64 0)), 34, "field.go:38", #[⟨8, .chain⟩, ⟨0, .phase⟩, ⟨1, .phase⟩, ⟨2, .phase⟩, ⟨3, .phase⟩, ⟨4, .phase⟩, ⟨5, .phase⟩, ⟨6, .phase⟩, ⟨7, .phase⟩, ⟨8, .phase⟩], none⟩ : Go.Oper) := rfl
theorem o43_5_ns : Go.Region.noSelect o43_5 = true := by kernel_rfl
set_option maxRecDepth 100000 in
set_option maxHeartbeats 4000000 in
theorem brings_wrong (lo lo' : Nat) (v u : Value) (xs : List AsD) (ps : List PlD) (x : AsD) (w : World) (hv : Ass w lo v xs) (hs : ∀ c ∈ xs, SmallA c) (hn : xs.length ≤ 1000) (hP : Pls w lo' u ps) (hp : ∀ c ∈ ps, SmallP c) (hm : ps.length ≤ 1000) (hsx : SmallA x) (he : brE xs ps x ≠ 0) :
  Calls Tryz.prog 43 #[v, u, .agg #[.string x.player, .string x.pos, .int .i64 x.value]] w (NumErr 0 (brE xs ps x) w) := by
 obtain ⟨W, hW⟩ : ∃ W, W = w.alloc (.cells #[.string x.player, .string x.pos, .int .i64 x.value] 78) := ⟨_, rfl⟩
 have hwW : Below w.heap.size w W := by rw [hW]; exact below_alloc w _
 have hx : W.heap[w.heap.size]? = some (.cells #[.string x.player, .string x.pos, .int .i64 x.value] 78 (0, 0)) := by rw [hW]; exact heap_alloc_new w _
 have x0 := cell_at hx 0 rfl
 have x1 := cell_at hx 1 rfl
 have x2 := cell_at hx 2 rfl
 have hWs : W.heap.size = w.heap.size + 1 := by rw [hW]; simp
 have HS := Lib.hid (show ∀ w', Below W.heap.size W w' → (Below W.heap.size W w' ∧ w'.cell? ⟨w.heap.size, 0, none⟩ = some (.string x.player) ∧ w'.cell? ⟨w.heap.size, 1, none⟩ = some (.string x.pos) ∧ w'.cell? ⟨w.heap.size, 2, none⟩ = some (.int .i64 x.value) ∧ w'.heap[w.heap.size]? = some (.cells #[.string x.player, .string x.pos, .int .i64 x.value] 78 (0, 0))) from fun w' hb => ⟨hb, below_cell hb x0, below_cell hb x1, below_cell hb x2, cells_later hx hb⟩)
 have D2 := Lib.hid (fun (W2 : World) (h : Below W.heap.size W W2) => wrongTeam_calls lo lo' v u xs ps W2 (hv.below (below_step hwW h)) hs (by omega) (hP.below (below_step hwW h)) hp (by omega))
 have D5 := Lib.hid (fun (W2 : World) (l : Nat) (uu : Value) (h : Ass W2 l uu [x]) => asCheck_calls l uu [x] W2 h (fun c hc => by rw [List.mem_singleton.1 hc]; exact hsx) (by simp))
 have D9 := Lib.hid (fun (W2 : World) (h : Below W.heap.size W W2) => isInB_calls lo v xs x.player W2 (hv.below (below_step hwW h)))
 obtain ⟨a, c, rfl⟩ := as_shape hv
 obtain ⟨pa, pc, rfl⟩ := pl_shape hP
 have HE := Lib.hid (show brE xs ps x = firstE [teamE xs ps, chkA [x], unlessE (!isB xs x.player) 6, unlessE (decide ((xs.length : Int) < 300)) 12] from rfl)
 have HWs := Lib.hid hWs
 have HwW := Lib.hid hwW
 generalize teamE xs ps = T0 at D2 HE
 generalize chkA [x] = K0 at D5 HE
 generalize isB xs x.player = I0 at D9 HE
 generalize xs.length = n at D2 D9 HE ⊢
 generalize ps.length = np at D2 ⊢
 generalize brE xs ps x = E0 at HE he ⊢
 have e1 : (E0 != 0) = true := by simp [he]
 clear he
 have hb0 := (Below.refl W.heap.size W).drew
 clear hv hP hs hp hsx x0 x1 x2 hx hWs hwW
 go_enter Tryz.func43, Tryz.ntmps43
 go_upto_region 1 with fail
 rw [← hW]
 clear hW
 show Code.wp _ (Code.region 1 o43_1 true) _ _ _
 refine regionC_start 19 (fun w' => Below W.heap.size W w' ∧ w'.cell? ⟨w.heap.size, 0, none⟩ = some (.string x.player) ∧ w'.cell? ⟨w.heap.size, 1, none⟩ = some (.string x.pos) ∧ w'.cell? ⟨w.heap.size, 2, none⟩ = some (.int .i64 x.value) ∧ w'.heap[w.heap.size]? = some (.cells #[.string x.player, .string x.pos, .int .i64 x.value] 78 (0, 0))) (fun j => [2, 3, 4, 5, 8, 9].contains j) (by kernel_rfl) rfl ?_
 generalize W.drew = wc at hb0 ⊢
 have hC := HS.out wc hb0
 refine takeC 0 10 (v := ?_) o43_1_0 rfl (by kernel_rfl) (by kernel_rfl) (by kernel_rfl) (by rfl) (fun _ _ _ h => h) (by rfl) ?y0_1 ?_
 case y0_1 => intro w; go_simp; try with_reducible rfl
 simp only [sE0, sE1]
 refine takeC 1 11 (v := ?_) o43_1_1 rfl (by kernel_rfl) (by kernel_rfl) (by kernel_rfl) (by rfl) (fun _ _ _ h => h) (by rfl) ?y1_2 ?_
 case y1_2 => intro w; go_simp; try with_reducible rfl
 simp only [sE0, sE1]
 refine takeC 6 16 (v := ?_) o43_1_6 rfl (by kernel_rfl) (by kernel_rfl) (by kernel_rfl) (by rfl) (fun _ _ _ h => h) (by rfl) ?y6_3 ?_
 case y6_3 => intro w; go_simp; try with_reducible rfl
 simp only [sE0, sE1]
 refine takeC 7 17 (v := ?_) o43_1_7 rfl (by kernel_rfl) (by kernel_rfl) (by kernel_rfl) (by rfl) (fun _ _ _ h => h) (by rfl) ?y7_4 ?_
 case y7_4 => intro w; go_simp; try with_reducible rfl
 simp only [sE0, sE1]
 refine takeC 12 22 (v := ?_) o43_1_12 rfl (by kernel_rfl) (by kernel_rfl) (by kernel_rfl) (by rfl) (fun _ _ _ h => h) (by rfl) ?y12_5 ?_
 case y12_5 => intro w; go_simp; try with_reducible rfl
 simp only [sE0, sE1]
 refine takeC 13 23 (v := ?_) o43_1_13 rfl (by kernel_rfl) (by kernel_rfl) (by kernel_rfl) (by rfl) (fun _ _ _ h => h) (by rfl) ?y13_6 ?_
 case y13_6 => intro w; go_simp; try with_reducible rfl
 simp only [sE0, sE1]
 refine takeC 14 24 (v := ?_) o43_1_14 rfl (by kernel_rfl) (by kernel_rfl) (by kernel_rfl) (by rfl) (fun _ _ _ h => h) (by rfl) ?y14_7 ?_
 case y14_7 => intro w; go_simp; try with_reducible rfl
 simp only [sE0, sE1]
 refine loadC 3 13 (v := ?_) o43_1_3 rfl (by kernel_rfl) (by kernel_rfl) (by kernel_rfl) (by kernel_rfl) (fun _ _ _ h => h) (by rfl) ?y3_8 (by exact hC) ?_
 case y3_8 => intro w h; (try dsimp only at h); go_simp; try with_reducible rfl
 simp only [sE0, sE1]
 refine loadC 8 18 (v := ?_) o43_1_8 rfl (by kernel_rfl) (by kernel_rfl) (by kernel_rfl) (by kernel_rfl) (fun _ _ _ h => h) (by rfl) ?y8_9 (by exact hC) ?_
 case y8_9 => intro w h; (try dsimp only at h); go_simp; try with_reducible rfl
 simp only [sE0, sE1]
 refine readyC (rs := [2, 4]) (by kernel_rfl) (by simp) (each_cons (runC o43_1_2 (by rfl) (fun K hK => ?_)) (each_cons (runC o43_1_4 (by rfl) (fun K hK => ?_)) each_nil))
 ·go_simp
  refine (D2.out _ hC.1).mono ?_; rintro e wc ⟨rfl, hbc⟩; replace hC := HS.out _ (below_step hC.1 hbc); try replace hA := hA.below hbc
  go_wp2_with fail
  refine hK.out _ _ (fun _ => ?_) ?_
  ·(exact hC)
  clear hK K; try simp only [Act.put, sEt, sE0, sE1]
  refine readyC (rs := [4]) (by kernel_rfl) (by simp) (each_cons (runC o43_1_4 (by rfl) (fun K hK => ?_)) each_nil)
  have hA := ass_one wc x; have hbn := below_alloc wc (.cells #[.string x.player, .string x.pos, .int .i64 x.value] 78); go_simp; obtain ⟨wn, hwn⟩ : ∃ wn, wc.alloc (.cells #[.string x.player, .string x.pos, .int .i64 x.value] 78) = wn := ⟨_, rfl⟩
  rw [hwn] at hA hbn ⊢
  clear hwn; replace hC := HS.out _ (below_step hC.1 hbn); clear hbn; obtain ⟨wc, rfl⟩ : ∃ wc, wc = wn := ⟨_, rfl⟩
  refine hK.out _ _ (fun _ => ?_) ?_
  ·(exact hC)
  clear hK K; try simp only [Act.put, sEt, sE0, sE1]
  refine readyC (rs := [5]) (by kernel_rfl) (by simp) (each_cons (runC o43_1_5 (by rfl) (fun K hK => ?_)) each_nil)
  go_simp; refine (D5.out _ _ _ hA).mono ?_; rintro e wc ⟨rfl, hbc⟩; replace hC := HS.out _ (below_step hC.1 hbc); clear hA; go_wp2_with fail
  refine hK.out _ _ (fun _ => ?_) ?_
  ·(exact hC)
  clear hK K; try simp only [Act.put, sEt, sE0, sE1]
  refine readyC (rs := [9]) (by kernel_rfl) (by simp) (each_cons (runC o43_1_9 (by rfl) (fun K hK => ?_)) each_nil)
  go_simp; refine (D9.out _ hC.1).mono ?_; rintro e wc ⟨rfl, hbc⟩; replace hC := HS.out _ (below_step hC.1 hbc); go_wp2_with fail
  refine hK.out _ _ (fun _ => ?_) ?_
  ·(exact hC)
  clear hK K; try simp only [Act.put, sEt, sE0, sE1]
  refine takeC 10 20 (v := ?_) o43_1_10 rfl (by kernel_rfl) (by kernel_rfl) (by kernel_rfl) (by rfl) (fun _ _ _ h => h) (by rfl) ?y10_10 ?_
  case y10_10 => intro w; go_simp; try with_reducible rfl
  simp only [sE0, sE1]; refine readyC (rs := [11]) (by kernel_rfl) (by simp) (each_cons (runC o43_1_11 (by rfl) (fun K hK => ?_)) each_nil)
  go_simp; refine (unless_calls _ _ _).mono ?_; rintro e w' ⟨rfl, rfl⟩; go_wp2_with fail
  refine hK.out _ _ (fun h => absurd h (by decide)) ?_
  clear hK K; try simp only [Act.put, sEt, sE0, sE1]
  refine readyC (rs := [15]) (by kernel_rfl) (by simp) (each_cons (runC o43_1_15 (by rfl) (fun K hK => ?_)) each_nil)
  go_simp; refine (unless_calls _ _ _).mono ?_; rintro e w' ⟨rfl, rfl⟩; go_wp2_with fail
  refine hK.out _ _ (fun h => absurd h (by decide)) ?_
  clear hK K; try simp only [Act.put, sEt, sE0, sE1]
  refine readyC (rs := [16]) (by kernel_rfl) (by simp) (each_cons (runC o43_1_16 (by rfl) (fun K hK => ?_)) each_nil)
  go_simp; refine hK.out _ _ (fun h => absurd h (by decide)) ?_
  clear hK K; try simp only [Act.put, sEt, sE0, sE1]
  refine readyC (rs := [17]) (by kernel_rfl) (by simp) (each_cons (runC o43_1_17 (by rfl) (fun K hK => ?_)) each_nil)
  go_simp; refine (orE_calls _ 0 4 [T0, K0, unlessE (!I0) 6, unlessE (decide ((n : Int) < 300)) 12] _ (by simp) (by exact nums4' _ _ _ _ _ _)).mono ?_
  rintro e w' ⟨rfl, rfl⟩; rw [← HE.out]; go_wp2_with fail
  refine hK.out _ _ (fun h => absurd h (by decide)) ?_
  clear hK K; try simp only [Act.put, sEt, sE0, sE1]
  refine takeC 18 8 (v := ?_) o43_1_18 rfl (by kernel_rfl) (by kernel_rfl) (by kernel_rfl) (by rfl) (fun _ _ _ h => h) (by rfl) ?y18_11 ?_
  case y18_11 => intro w; go_simp; try with_reducible rfl
  simp only [sE0, sE1]; refine doneC (by kernel_rfl) ?_ _
  have hbF := below_step HwW.out hC.1; clear HS HE D2 D5 D9 hC; go_wp2_with fail
  go_ret2
  exact ⟨rfl, below_step hbF (below_alloc _ _)⟩
 ·have hA := ass_one wc x
  have hbn := below_alloc wc (.cells #[.string x.player, .string x.pos, .int .i64 x.value] 78); go_simp; obtain ⟨wn, hwn⟩ : ∃ wn, wc.alloc (.cells #[.string x.player, .string x.pos, .int .i64 x.value] 78) = wn := ⟨_, rfl⟩
  rw [hwn] at hA hbn ⊢
  clear hwn; replace hC := HS.out _ (below_step hC.1 hbn); clear hbn; obtain ⟨wc, rfl⟩ : ∃ wc, wc = wn := ⟨_, rfl⟩
  refine hK.out _ _ (fun _ => ?_) ?_
  ·(exact hC)
  clear hK K; try simp only [Act.put, sEt, sE0, sE1]
  refine readyC (rs := [2]) (by kernel_rfl) (by simp) (each_cons (runC o43_1_2 (by rfl) (fun K hK => ?_)) each_nil)
  go_simp; refine (D2.out _ hC.1).mono ?_; rintro e wc ⟨rfl, hbc⟩; replace hC := HS.out _ (below_step hC.1 hbc); try replace hA := hA.below hbc
  go_wp2_with fail
  refine hK.out _ _ (fun _ => ?_) ?_
  ·(exact hC)
  clear hK K; try simp only [Act.put, sEt, sE0, sE1]
  refine readyC (rs := [5]) (by kernel_rfl) (by simp) (each_cons (runC o43_1_5 (by rfl) (fun K hK => ?_)) each_nil)
  go_simp; refine (D5.out _ _ _ hA).mono ?_; rintro e wc ⟨rfl, hbc⟩; replace hC := HS.out _ (below_step hC.1 hbc); clear hA; go_wp2_with fail
  refine hK.out _ _ (fun _ => ?_) ?_
  ·(exact hC)
  clear hK K; try simp only [Act.put, sEt, sE0, sE1]
  refine readyC (rs := [9]) (by kernel_rfl) (by simp) (each_cons (runC o43_1_9 (by rfl) (fun K hK => ?_)) each_nil)
  go_simp; refine (D9.out _ hC.1).mono ?_; rintro e wc ⟨rfl, hbc⟩; replace hC := HS.out _ (below_step hC.1 hbc); go_wp2_with fail
  refine hK.out _ _ (fun _ => ?_) ?_
  ·(exact hC)
  clear hK K; try simp only [Act.put, sEt, sE0, sE1]
  refine takeC 10 20 (v := ?_) o43_1_10 rfl (by kernel_rfl) (by kernel_rfl) (by kernel_rfl) (by rfl) (fun _ _ _ h => h) (by rfl) ?y10_12 ?_
  case y10_12 => intro w; go_simp; try with_reducible rfl
  simp only [sE0, sE1]; refine readyC (rs := [11]) (by kernel_rfl) (by simp) (each_cons (runC o43_1_11 (by rfl) (fun K hK => ?_)) each_nil)
  go_simp; refine (unless_calls _ _ _).mono ?_; rintro e w' ⟨rfl, rfl⟩; go_wp2_with fail
  refine hK.out _ _ (fun h => absurd h (by decide)) ?_
  clear hK K; try simp only [Act.put, sEt, sE0, sE1]
  refine readyC (rs := [15]) (by kernel_rfl) (by simp) (each_cons (runC o43_1_15 (by rfl) (fun K hK => ?_)) each_nil)
  go_simp; refine (unless_calls _ _ _).mono ?_; rintro e w' ⟨rfl, rfl⟩; go_wp2_with fail
  refine hK.out _ _ (fun h => absurd h (by decide)) ?_
  clear hK K; try simp only [Act.put, sEt, sE0, sE1]
  refine readyC (rs := [16]) (by kernel_rfl) (by simp) (each_cons (runC o43_1_16 (by rfl) (fun K hK => ?_)) each_nil)
  go_simp; refine hK.out _ _ (fun h => absurd h (by decide)) ?_
  clear hK K; try simp only [Act.put, sEt, sE0, sE1]
  refine readyC (rs := [17]) (by kernel_rfl) (by simp) (each_cons (runC o43_1_17 (by rfl) (fun K hK => ?_)) each_nil)
  go_simp; refine (orE_calls _ 0 4 [T0, K0, unlessE (!I0) 6, unlessE (decide ((n : Int) < 300)) 12] _ (by simp) (by exact nums4' _ _ _ _ _ _)).mono ?_
  rintro e w' ⟨rfl, rfl⟩; rw [← HE.out]; go_wp2_with fail
  refine hK.out _ _ (fun h => absurd h (by decide)) ?_
  clear hK K; try simp only [Act.put, sEt, sE0, sE1]
  refine takeC 18 8 (v := ?_) o43_1_18 rfl (by kernel_rfl) (by kernel_rfl) (by kernel_rfl) (by rfl) (fun _ _ _ h => h) (by rfl) ?y18_13 ?_
  case y18_13 => intro w; go_simp; try with_reducible rfl
  simp only [sE0, sE1]; refine doneC (by kernel_rfl) ?_ _
  have hbF := below_step HwW.out hC.1; clear HS HE D2 D5 D9 hC; go_wp2_with fail
  go_ret2
  exact ⟨rfl, below_step hbF (below_alloc _ _)⟩
theorem cands_fit {ps : List PlD} {l : List AsD} (h : ∀ x ∈ l, FitA x) : ∀ c ∈ cands ps l, FitA c.1 := fun c hc => h _ (cands_mem hc)
theorem sumF_bound (ps : List PlD) (has : ByteArray → Bool) (l : List AsD) (h : ∀ x ∈ l, FitA x) (hl : l.length ≤ 12) : -1000000000 ≤ sumC (fieldP ps has l) ∧ sumC (fieldP ps has l) ≤ 1000000000 := by
 have h1 := sumC_bound (fieldP ps has l) (fun c hc => cands_fit h c (fldP_sub _ _ _ _ c hc)) (Nat.le_trans (fldP_len _ _ _ _) (Nat.le_trans (cands_len ps l) (by omega))) (fieldP ps has l).length
 rwa [List.take_length] at h1
set_option maxRecDepth 100000 in
set_option maxHeartbeats 16000000 in
theorem brings_right (lo lo' : Nat) (v u : Value) (xs : List AsD) (ps : List PlD) (x : AsD) (w : World) (hv : Ass w lo v xs) (hs : ∀ c ∈ xs, SmallA c) (hn : xs.length ≤ 11) (hP : Pls w lo' u ps) (hp : ∀ c ∈ ps, SmallP c) (hm : ps.length ≤ 10) (hsx : SmallA x) (ho : OnceP ps) (hf : ∀ y ∈ xs, FitA y) (hfx : FitA x) (he : brE xs ps x = 0) :
  Calls Tryz.prog 43 #[v, u, .agg #[.string x.player, .string x.pos, .int .i64 x.value]] w (NumErr (sumC (fieldP ps TheAll (xs ++ [x])) - sumC (fieldP ps (fun k => !beqS k x.player) (xs ++ [x]))) 0 w) := by
 obtain ⟨i0, hi, hz0, hz1, hz2⟩ := info_parts info_As
 have hs2 : ∀ c ∈ xs ++ [x], SmallA c := fun c hc => (List.mem_append.1 hc).elim (hs c) fun h => by rw [List.mem_singleton.1 h]; exact hsx
 have hf2 : ∀ c ∈ xs ++ [x], FitA c := fun c hc => (List.mem_append.1 hc).elim (hf c) fun h => by rw [List.mem_singleton.1 h]; exact hfx
 have hl2 : (xs ++ [x]).length ≤ 12 := by simp; omega
 obtain ⟨W, hW⟩ : ∃ W, W = w.alloc (.cells #[.string x.player, .string x.pos, .int .i64 x.value] 78) := ⟨_, rfl⟩
 have hwW : Below w.heap.size w W := by rw [hW]; exact below_alloc w _
 have hx : W.heap[w.heap.size]? = some (.cells #[.string x.player, .string x.pos, .int .i64 x.value] 78 (0, 0)) := by rw [hW]; exact heap_alloc_new w _
 have x0 := cell_at hx 0 rfl
 have x1 := cell_at hx 1 rfl
 have x2 := cell_at hx 2 rfl
 have hWs : W.heap.size = w.heap.size + 1 := by rw [hW]; simp
 have HS := Lib.hid (show ∀ w', Below W.heap.size W w' → (Below W.heap.size W w' ∧ w'.cell? ⟨w.heap.size, 0, none⟩ = some (.string x.player) ∧ w'.cell? ⟨w.heap.size, 1, none⟩ = some (.string x.pos) ∧ w'.cell? ⟨w.heap.size, 2, none⟩ = some (.int .i64 x.value) ∧ w'.heap[w.heap.size]? = some (.cells #[.string x.player, .string x.pos, .int .i64 x.value] 78 (0, 0))) from fun w' hb => ⟨hb, below_cell hb x0, below_cell hb x1, below_cell hb x2, cells_later hx hb⟩)
 have D2 := Lib.hid (fun (W2 : World) (h : Below W.heap.size W W2) => wrongTeam_calls lo lo' v u xs ps W2 (hv.below (below_step hwW h)) hs (by omega) (hP.below (below_step hwW h)) hp (by omega))
 have D5 := Lib.hid (fun (W2 : World) (l : Nat) (uu : Value) (h : Ass W2 l uu [x]) => asCheck_calls l uu [x] W2 h (fun c hc => by rw [List.mem_singleton.1 hc]; exact hsx) (by simp))
 have D9 := Lib.hid (fun (W2 : World) (h : Below W.heap.size W W2) => isInB_calls lo v xs x.player W2 (hv.below (below_step hwW h)))
 have C := Lib.hid (fun W2 (hb : Below W.heap.size W W2) => cloneAs_calls lo v xs W2 ((hv.below hwW).below hb))
 have DP := Lib.hid (fun (W2 : World) (h : Below W.heap.size W W2) (l : Nat) (uu : Value) (hA : Ass W2 l uu (xs ++ [x])) => poolOf_calls l lo' uu u (xs ++ [x]) ps W2 hA (hP.below (below_step hwW h)) hl2 hs2 (by omega) hp ho)
 have DM := Lib.hid (fun (W2 : World) (h : Below w.heap.size w W2) (l : Nat) (cv : Value) (hC : Cas W2 l cv (cands ps (xs ++ [x]))) => most_calls l lo' u cv ps (cands ps (xs ++ [x])) TheAll 106 #[] W2 (hP.below h) hC (fun c hc => cands_lt c hc) (by omega) (by have := cands_len ps (xs ++ [x]); omega) hp (cands_fit hf2) (enters_of Tryz.func106 (by kernel_rfl) rfl) (fun W' k _ => everybody_calls k W'))
 have DB := Lib.hid (fun (W2 : World) (h : Below w.heap.size w W2) (l : Nat) (cv : Value) (hC : Cas W2 l cv (cands ps (xs ++ [x]))) (X : Nat) (hX : W2.cell? ⟨X, 0, none⟩ = some (.string x.player)) => most_calls l lo' u cv ps (cands ps (xs ++ [x])) (fun k => !beqS k x.player) 149 #[.pointer (some ⟨X, 0, none⟩)] W2 (hP.below h) hC (fun c hc => cands_lt c hc) (by omega) (by have := cands_len ps (xs ++ [x]); omega) hp (cands_fit hf2) (enters_of Tryz.func149 (by kernel_rfl) rfl) (fun W' k hb => but1_calls X k x.player W' (below_cell hb hX)))
 change Hid (∀ (W2 : World) (h : Below w.heap.size w W2) (l : Nat) (cv : Value) (hC : Cas W2 l cv (cands ps (xs ++ [x]))), Calls Tryz.prog 109 #[.agg #[u, cv], .func (.func 106) #[] #[]] W2 (IntBelow (sumC (fieldP ps TheAll (xs ++ [x]))) W2)) at DM
 change Hid (∀ (W2 : World) (h : Below w.heap.size w W2) (l : Nat) (cv : Value) (hC : Cas W2 l cv (cands ps (xs ++ [x]))) (X : Nat) (hX : W2.cell? ⟨X, 0, none⟩ = some (.string x.player)), Calls Tryz.prog 109 #[.agg #[u, cv], .func (.func 149) #[] #[.pointer (some ⟨X, 0, none⟩)]] W2 (IntBelow (sumC (fieldP ps (fun k => !beqS k x.player) (xs ++ [x]))) W2)) at DB
 obtain ⟨hm1, hm2⟩ := sumF_bound ps TheAll (xs ++ [x]) hf2 hl2
 obtain ⟨hm3, hm4⟩ := sumF_bound ps (fun k => !beqS k x.player) (xs ++ [x]) hf2 hl2
 have Hcl := Lib.hid (show (cands ps (xs ++ [x])).length ≤ 12 from Nat.le_trans (cands_len _ _) hl2)
 generalize sumC (fieldP ps TheAll (xs ++ [x])) = M1 at DM hm1 hm2 ⊢
 generalize sumC (fieldP ps (fun k => !beqS k x.player) (xs ++ [x])) = M2 at DB hm3 hm4 ⊢
 generalize cands ps (xs ++ [x]) = CS at DP DM DB Hcl
 clear hs2 hf2 hl2
 obtain ⟨a, c, rfl⟩ := as_shape hv
 obtain ⟨pa, pc, rfl⟩ := pl_shape hP
 have HE := Lib.hid (show brE xs ps x = firstE [teamE xs ps, chkA [x], unlessE (!isB xs x.player) 6, unlessE (decide ((xs.length : Int) < 300)) 12] from rfl)
 have HWs := Lib.hid hWs
 have HwW := Lib.hid hwW
 generalize teamE xs ps = T0 at D2 HE
 generalize chkA [x] = K0 at D5 HE
 generalize isB xs x.player = I0 at D9 HE
 generalize ps.length = np at D2 DP DM DB ⊢
 generalize brE xs ps x = E0 at HE he ⊢
 have e1 : (E0 != 0) = false := by simp [he]
 clear he
 have hb0 := (Below.refl W.heap.size W).drew
 clear hv hP hs hp hsx x0 x1 x2 hx hWs hwW
 go_enter Tryz.func43, Tryz.ntmps43
 go_upto_region 1 with fail
 rw [← hW]
 clear hW
 show Code.wp _ (Code.region 1 o43_1 true) _ _ _
 refine regionC_start 19 (fun w' => Below W.heap.size W w' ∧ w'.cell? ⟨w.heap.size, 0, none⟩ = some (.string x.player) ∧ w'.cell? ⟨w.heap.size, 1, none⟩ = some (.string x.pos) ∧ w'.cell? ⟨w.heap.size, 2, none⟩ = some (.int .i64 x.value) ∧ w'.heap[w.heap.size]? = some (.cells #[.string x.player, .string x.pos, .int .i64 x.value] 78 (0, 0))) (fun j => [2, 3, 4, 5, 8, 9].contains j) (by kernel_rfl) rfl ?_
 generalize W.drew = wc at hb0 ⊢
 have hC := HS.out wc hb0
 refine takeC 0 10 (v := ?_) o43_1_0 rfl (by kernel_rfl) (by kernel_rfl) (by kernel_rfl) (by rfl) (fun _ _ _ h => h) (by rfl) ?y0_1 ?_
 case y0_1 => intro w; go_simp; try with_reducible rfl
 simp only [sE0, sE1]
 refine takeC 1 11 (v := ?_) o43_1_1 rfl (by kernel_rfl) (by kernel_rfl) (by kernel_rfl) (by rfl) (fun _ _ _ h => h) (by rfl) ?y1_2 ?_
 case y1_2 => intro w; go_simp; try with_reducible rfl
 simp only [sE0, sE1]
 refine takeC 6 16 (v := ?_) o43_1_6 rfl (by kernel_rfl) (by kernel_rfl) (by kernel_rfl) (by rfl) (fun _ _ _ h => h) (by rfl) ?y6_3 ?_
 case y6_3 => intro w; go_simp; try with_reducible rfl
 simp only [sE0, sE1]
 refine takeC 7 17 (v := ?_) o43_1_7 rfl (by kernel_rfl) (by kernel_rfl) (by kernel_rfl) (by rfl) (fun _ _ _ h => h) (by rfl) ?y7_4 ?_
 case y7_4 => intro w; go_simp; try with_reducible rfl
 simp only [sE0, sE1]
 refine takeC 12 22 (v := ?_) o43_1_12 rfl (by kernel_rfl) (by kernel_rfl) (by kernel_rfl) (by rfl) (fun _ _ _ h => h) (by rfl) ?y12_5 ?_
 case y12_5 => intro w; go_simp; try with_reducible rfl
 simp only [sE0, sE1]
 refine takeC 13 23 (v := ?_) o43_1_13 rfl (by kernel_rfl) (by kernel_rfl) (by kernel_rfl) (by rfl) (fun _ _ _ h => h) (by rfl) ?y13_6 ?_
 case y13_6 => intro w; go_simp; try with_reducible rfl
 simp only [sE0, sE1]
 refine takeC 14 24 (v := ?_) o43_1_14 rfl (by kernel_rfl) (by kernel_rfl) (by kernel_rfl) (by rfl) (fun _ _ _ h => h) (by rfl) ?y14_7 ?_
 case y14_7 => intro w; go_simp; try with_reducible rfl
 simp only [sE0, sE1]
 refine loadC 3 13 (v := ?_) o43_1_3 rfl (by kernel_rfl) (by kernel_rfl) (by kernel_rfl) (by kernel_rfl) (fun _ _ _ h => h) (by rfl) ?y3_8 (by exact hC) ?_
 case y3_8 => intro w h; (try dsimp only at h); go_simp; try with_reducible rfl
 simp only [sE0, sE1]
 refine loadC 8 18 (v := ?_) o43_1_8 rfl (by kernel_rfl) (by kernel_rfl) (by kernel_rfl) (by kernel_rfl) (fun _ _ _ h => h) (by rfl) ?y8_9 (by exact hC) ?_
 case y8_9 => intro w h; (try dsimp only at h); go_simp; try with_reducible rfl
 simp only [sE0, sE1]
 refine readyC (rs := [2, 4]) (by kernel_rfl) (by simp) (each_cons (runC o43_1_2 (by rfl) (fun K hK => ?_)) (each_cons (runC o43_1_4 (by rfl) (fun K hK => ?_)) each_nil))
 ·go_simp
  refine (D2.out _ hC.1).mono ?_; rintro e wc ⟨rfl, hbc⟩; replace hC := HS.out _ (below_step hC.1 hbc); try replace hA := hA.below hbc
  go_wp2_with fail
  refine hK.out _ _ (fun _ => ?_) ?_
  ·(exact hC)
  clear hK K; try simp only [Act.put, sEt, sE0, sE1]
  refine readyC (rs := [4]) (by kernel_rfl) (by simp) (each_cons (runC o43_1_4 (by rfl) (fun K hK => ?_)) each_nil)
  have hA := ass_one wc x; have hbn := below_alloc wc (.cells #[.string x.player, .string x.pos, .int .i64 x.value] 78); go_simp; obtain ⟨wn, hwn⟩ : ∃ wn, wc.alloc (.cells #[.string x.player, .string x.pos, .int .i64 x.value] 78) = wn := ⟨_, rfl⟩
  rw [hwn] at hA hbn ⊢
  clear hwn; replace hC := HS.out _ (below_step hC.1 hbn); clear hbn; obtain ⟨wc, rfl⟩ : ∃ wc, wc = wn := ⟨_, rfl⟩
  refine hK.out _ _ (fun _ => ?_) ?_
  ·(exact hC)
  clear hK K; try simp only [Act.put, sEt, sE0, sE1]
  refine readyC (rs := [5]) (by kernel_rfl) (by simp) (each_cons (runC o43_1_5 (by rfl) (fun K hK => ?_)) each_nil)
  go_simp; refine (D5.out _ _ _ hA).mono ?_; rintro e wc ⟨rfl, hbc⟩; replace hC := HS.out _ (below_step hC.1 hbc); clear hA; go_wp2_with fail
  refine hK.out _ _ (fun _ => ?_) ?_
  ·(exact hC)
  clear hK K; try simp only [Act.put, sEt, sE0, sE1]
  refine readyC (rs := [9]) (by kernel_rfl) (by simp) (each_cons (runC o43_1_9 (by rfl) (fun K hK => ?_)) each_nil)
  go_simp; refine (D9.out _ hC.1).mono ?_; rintro e wc ⟨rfl, hbc⟩; replace hC := HS.out _ (below_step hC.1 hbc); go_wp2_with fail
  refine hK.out _ _ (fun _ => ?_) ?_
  ·(exact hC)
  clear hK K; try simp only [Act.put, sEt, sE0, sE1]
  refine takeC 10 20 (v := ?_) o43_1_10 rfl (by kernel_rfl) (by kernel_rfl) (by kernel_rfl) (by rfl) (fun _ _ _ h => h) (by rfl) ?y10_10 ?_
  case y10_10 => intro w; go_simp; try with_reducible rfl
  simp only [sE0, sE1]; refine readyC (rs := [11]) (by kernel_rfl) (by simp) (each_cons (runC o43_1_11 (by rfl) (fun K hK => ?_)) each_nil)
  go_simp; refine (unless_calls _ _ _).mono ?_; rintro e w' ⟨rfl, rfl⟩; go_wp2_with fail
  refine hK.out _ _ (fun h => absurd h (by decide)) ?_
  clear hK K; try simp only [Act.put, sEt, sE0, sE1]
  refine readyC (rs := [15]) (by kernel_rfl) (by simp) (each_cons (runC o43_1_15 (by rfl) (fun K hK => ?_)) each_nil)
  go_simp; refine (unless_calls _ _ _).mono ?_; rintro e w' ⟨rfl, rfl⟩; go_wp2_with fail
  refine hK.out _ _ (fun h => absurd h (by decide)) ?_
  clear hK K; try simp only [Act.put, sEt, sE0, sE1]
  refine readyC (rs := [16]) (by kernel_rfl) (by simp) (each_cons (runC o43_1_16 (by rfl) (fun K hK => ?_)) each_nil)
  go_simp; refine hK.out _ _ (fun h => absurd h (by decide)) ?_
  clear hK K; try simp only [Act.put, sEt, sE0, sE1]
  refine readyC (rs := [17]) (by kernel_rfl) (by simp) (each_cons (runC o43_1_17 (by rfl) (fun K hK => ?_)) each_nil)
  go_simp; refine (orE_calls _ 0 4 [T0, K0, unlessE (!I0) 6, unlessE (decide ((xs.length : Int) < 300)) 12] _ (by simp) (by exact nums4' _ _ _ _ _ _)).mono ?_
  rintro e w' ⟨rfl, rfl⟩; rw [← HE.out]; go_wp2_with fail
  refine hK.out _ _ (fun h => absurd h (by decide)) ?_
  clear hK K; try simp only [Act.put, sEt, sE0, sE1]
  refine takeC 18 8 (v := ?_) o43_1_18 rfl (by kernel_rfl) (by kernel_rfl) (by kernel_rfl) (by rfl) (fun _ _ _ h => h) (by rfl) ?y18_11 ?_
  case y18_11 => intro w; go_simp; try with_reducible rfl
  simp only [sE0, sE1]; refine doneC (by kernel_rfl) ?_ _
  replace hC := HS.out _ (below_step hC.1 (below_alloc wc (.cells #[.int .i64 T0, .int .i64 K0, .int .i64 (unlessE (!I0) 6), .int .i64 (unlessE (decide ((xs.length : Int) < 300)) 12)] 34))); obtain ⟨wc, hwn⟩ : ∃ wn, wn = wc.alloc (.cells #[.int .i64 T0, .int .i64 K0, .int .i64 (unlessE (!I0) 6), .int .i64 (unlessE (decide ((xs.length : Int) < 300)) 12)] 34) := ⟨_, rfl⟩
  rw [← hwn] at hC ⊢
  clear hwn HE D2 D5 D9; go_upto_region 4 with fail
  have hC4 := HS.out wc.drew hC.1.drew; show Code.wp _ (Code.region 4 o43_4 true) _ _ _
  refine regionC_start 9 (fun w' => Below W.heap.size W w' ∧ w'.cell? ⟨w.heap.size, 0, none⟩ = some (.string x.player) ∧ w'.cell? ⟨w.heap.size, 1, none⟩ = some (.string x.pos) ∧ w'.cell? ⟨w.heap.size, 2, none⟩ = some (.int .i64 x.value) ∧ w'.heap[w.heap.size]? = some (.cells #[.string x.player, .string x.pos, .int .i64 x.value] 78 (0, 0))) (fun j => [1, 2, 3, 6, 7].contains j) (by kernel_rfl) rfl ?_
  generalize wc.drew = wd at hC4 ⊢
  clear hC; obtain ⟨wc, rfl⟩ : ∃ wc, wc = wd := ⟨_, rfl⟩
  have hC := hC4; clear hC4; refine takeC 0 31 (v := ?_) o43_4_0 rfl (by kernel_rfl) (by kernel_rfl) (by kernel_rfl) (by rfl) (fun _ _ _ h => h) (by rfl) ?y0_1 ?_
  case y0_1 => intro w; go_simp; try with_reducible rfl
  simp only [sE0, sE1]; refine takeC 5 36 (v := ?_) o43_4_5 rfl (by kernel_rfl) (by kernel_rfl) (by kernel_rfl) (by rfl) (fun _ _ _ h => h) (by rfl) ?y5_2 ?_
  case y5_2 => intro w; go_simp; try with_reducible rfl
  simp only [sE0, sE1]; refine loadC 2 33 (v := ?_) o43_4_2 rfl (by kernel_rfl) (by kernel_rfl) (by kernel_rfl) (by kernel_rfl) (fun _ _ _ h => h) (by rfl) ?y2_3 (by exact hC) ?_
  case y2_3 => intro w h; (try dsimp only at h); go_simp; try with_reducible rfl
  simp only [sE0, sE1]; refine readyC (rs := [1, 3, 7]) (by kernel_rfl) (by simp) (each_cons (runC o43_4_1 (by rfl) (fun K hK => ?_)) (each_cons (runC o43_4_3 (by rfl) (fun K hK => ?_)) (each_cons (runC o43_4_7 (by rfl) (fun K hK => ?_)) each_nil)))
  ·go_simp
   refine (C.out _ hC.1).mono ?_; rintro e w2 ⟨v1, hown, rfl, hbc⟩; replace hown := World.ownsRow.mono hown hC.1.size; obtain ⟨wc, rfl⟩ : ∃ wc, wc = w2 := ⟨_, rfl⟩
   replace hC := HS.out _ (below_step hC.1 hbc); try replace hZ := cells_later hZ hbc
   try replace hN := news_below hbc hN
   try replace hown2 := own_belowG hown2 hbc
   try replace hCa := hCa.below hbc
   go_wp2_with fail
   refine hK.out _ _ (fun _ => ?_) ?_
   ·(exact hC)
   clear hK K; try simp only [Act.put, sEt, sE0, sE1]
   refine readyC (rs := [3, 7]) (by kernel_rfl) (by simp) (each_cons (runC o43_4_3 (by rfl) (fun K hK => ?_)) (each_cons (runC o43_4_7 (by rfl) (fun K hK => ?_)) each_nil))
   ·have hN := cells_newG wc [.string x.player, .string x.pos, .int .i64 x.value] 78
    have hbn := below_alloc wc (.cells #[.string x.player, .string x.pos, .int .i64 x.value] 78); go_simp; obtain ⟨wn, hwn⟩ : ∃ wn, wc.alloc (.cells #[.string x.player, .string x.pos, .int .i64 x.value] 78) = wn := ⟨_, rfl⟩
    rw [hwn] at hN hbn ⊢
    clear hwn; replace hC := HS.out _ (below_step hC.1 hbn); try replace hZ := cells_later hZ hbn
    try replace hown := own_belowG hown hbn
    try replace hownF := own_belowG hownF hbn
    try replace hCa := hCa.below hbn
    clear hbn; obtain ⟨wc, rfl⟩ : ∃ wc, wc = wn := ⟨_, rfl⟩
    refine hK.out _ _ (fun _ => ?_) ?_
    ·(exact hC)
    clear hK K; try simp only [Act.put, sEt, sE0, sE1]
    refine readyC (rs := [4, 7]) (by kernel_rfl) (by simp) (each_cons (runC o43_4_4 (by rfl) (fun K hK => ?_)) (each_cons (runC o43_4_7 (by rfl) (fun K hK => ?_)) each_nil))
    ·refine wp_append_at _ (.tmp 32) (.tmp 34) 52 rfl W.heap.size 78 i0 (.agg #[.string ⟨#[]⟩, .string ⟨#[]⟩, .int .i64 0]) 3 40 Tryz.underlying52 hi hz0 hz1 hz2 rfl (by decide) v1 xs.length _ rfl hown _ 1 1 [.string x.player, .string x.pos, .int .i64 x.value] rfl rfl hN (by simp [Value.oneCell']) (by unfold maxLen; omega) (by omega) hC.1.size ?_
     intro v2 w2 hown2 hgrow; have hCb := HS.out _ (hC.1.grown hgrow hC.1.size fun r hr => (own_block hown r hr).1)
     try replace hZ := (hgrow.block _ (lt_of_heap hZ) (fun e => by obtain ⟨_, cur, hc⟩ := own_block hown _ e.symm; rw [hZ] at hc; simp at hc)).trans hZ
     have hownF : OwnAs w2 W.heap.size v2 (xs ++ [x]) := by
      unfold OwnAs; have e : ((xs ++ [x]).map asRow).flatten = (xs.map asRow).flatten ++ [.string x.player, .string x.pos, .int .i64 x.value] := by simp [asRow]
      rw [e, List.length_append]; exact hown2
     clear hgrow hown hC hN hown2; have hC := hCb; clear hCb; obtain ⟨wc, rfl⟩ : ∃ wc, wc = w2 := ⟨_, rfl⟩
     refine hK.out _ _ (fun h => absurd h (by decide)) ?_
     clear hK K; try simp only [Act.put, sEt, sE0, sE1]
     refine readyC (rs := [6, 7]) (by kernel_rfl) (by simp) (each_cons (runC o43_4_6 (by rfl) (fun K hK => ?_)) (each_cons (runC o43_4_7 (by rfl) (fun K hK => ?_)) each_nil))
     ·go_simp
      have hFr := fresh_own hownF; refine (DP.out _ hC.1 _ _ (hFr.ass (by simp; omega))).mono ?_
      rintro e w2 ⟨cv, rfl, hCa, hbc⟩; obtain ⟨wc, rfl⟩ : ∃ wc, wc = w2 := ⟨_, rfl⟩
      clear hFr hownF; obtain ⟨ca, cc, rfl⟩ := ca_shape hCa; replace hC := HS.out _ (below_step hC.1 hbc); try replace hZ := cells_later hZ hbc
      go_wp2_with fail
      refine hK.out _ _ (fun _ => ?_) ?_
      ·(exact hC)
      clear hK K; try simp only [Act.put, sEt, sE0, sE1]
      refine readyC (rs := [7]) (by kernel_rfl) (by simp) (each_cons (runC o43_4_7 (by rfl) (fun K hK => ?_)) each_nil)
      have hZ := heap_alloc_new wc (.cells #[.slice none 0 0, .slice none 0 0] 142); have hbn := below_alloc wc (.cells #[.slice none 0 0, .slice none 0 0] 142); have hgz := hC.1.size; go_simp; obtain ⟨wn, hwn⟩ : ∃ wn, wc.alloc (.cells #[.slice none 0 0, .slice none 0 0] 142) = wn := ⟨_, rfl⟩
      rw [hwn] at hZ hbn ⊢
      clear hwn; replace hC := HS.out _ (below_step hC.1 hbn); try replace hN := news_below hbn hN
      try replace hown := own_belowG hown hbn
      try replace hownF := own_belowG hownF hbn
      try replace hCa := hCa.below hbn
      clear hbn; obtain ⟨wc, rfl⟩ : ∃ wc, wc = wn := ⟨_, rfl⟩
      refine hK.out _ _ (fun _ => ?_) ?_
      ·(exact hC)
      clear hK K; try simp only [Act.put, sEt, sE0, sE1]
      refine readyC (rs := [8]) (by kernel_rfl) (by simp) (each_cons (runC o43_4_8 (by rfl) (fun K hK => ?_)) each_nil)
      have hfz := fun o => frozen_ofG hZ o
      have z0 := cell_at hZ 0 rfl; have z1 := cell_at hZ 1 rfl; go_simp; refine hK.out _ _ (fun h => absurd h (by decide)) ?_
      clear hK K; try simp only [sEt, sE0, sE1]
      refine doneC (by kernel_rfl) ?_ _
      obtain ⟨gz, w5, hgq, hw5, hZo, hZ5, hg5, hgl⟩ := pool_put hZ hgz (.slice pa np pc) (.slice ca CS.length cc); rw [hgq]; rw [← hw5]; have hC5 : Cas w5 0 (.slice ca CS.length cc) CS := Cas.mono (show Cas w5 _ _ CS from Rows.row hCa hg5 (fun r hr => by cases hr; exact ⟨_, _, _, hZo, by decide⟩)) (Nat.zero_le _)
      have hb5 : Below w.heap.size w w5 := below_gbG (below_step HwW.out hC.1) hg5 (by have := HwW.out.size; omega)
      have hx5 := heap_gbG hC.2.2.2.2 hg5 (by have := HWs.out; omega)
      have x0 := cell_at hx5 0 rfl; have z0 := cell_at hZ5 0 rfl; have z1 := cell_at hZ5 1 rfl; have HT := Lib.hid (show ∀ w', Below w5.heap.size w5 w' → (Below w5.heap.size w5 w' ∧ w'.cell? ⟨gz, 0, none⟩ = some (.slice pa np pc) ∧ w'.cell? ⟨gz, 1, none⟩ = some (.slice ca CS.length cc) ∧ w'.cell? ⟨w.heap.size, 0, none⟩ = some (.string x.player)) from fun w' hb => ⟨hb, below_cell hb z0, below_cell hb z1, below_cell hb x0⟩)
      have hbd := (Below.refl w5.heap.size w5).drew; clear x0 z0 z1 hx5 hZ5 hZo hZ hC hCa hw5 hgq hgz hfz HS hg5; go_upto_region 5 with fail
      show Code.wp _ (Code.region 5 o43_5 true) _ _ _
      refine region_start 10 (fun w' => Below w5.heap.size w5 w' ∧ w'.cell? ⟨gz, 0, none⟩ = some (.slice pa np pc) ∧ w'.cell? ⟨gz, 1, none⟩ = some (.slice ca CS.length cc) ∧ w'.cell? ⟨w.heap.size, 0, none⟩ = some (.string x.player)) (by kernel_rfl) rfl ?_ (fun hHeld => ?_)
      ·(exact HT.out _ (by first | exact hbd | exact hHeld.1 | exact below_step hHeld.1 (by assumption)))
      refine take_to 0 38 (bQ 10 1) (v := ?_) o43_5_0 rfl o43_5_ns (by kernel_rfl) (by kernel_rfl) (fun _ _ _ h => h) (by rfl) ?y0t (by assumption) ?_
      case y0t => intro w h; (try dsimp only at h); go_simp; try with_reducible rfl
      simp only [sE0, sE1]; refine take_to 2 40 (bQ 10 5) (v := ?_) o43_5_2 rfl o43_5_ns (by kernel_rfl) (by kernel_rfl) (fun _ _ _ h => h) (by rfl) ?y2t (by assumption) ?_
      case y2t => intro w h; (try dsimp only at h); go_simp; try with_reducible rfl
      simp only [sE0, sE1]; refine take_to 3 41 (bQ 10 13) (v := ?_) o43_5_3 rfl o43_5_ns (by kernel_rfl) (by kernel_rfl) (fun _ _ _ h => h) (by rfl) ?y3t (by assumption) ?_
      case y3t => intro w h; (try dsimp only at h); go_simp; try with_reducible rfl
      simp only [sE0, sE1]; refine take_to 4 42 (bQ 10 29) (v := ?_) o43_5_4 rfl o43_5_ns (by kernel_rfl) (by kernel_rfl) (fun _ _ _ h => h) (by rfl) ?y4t (by assumption) ?_
      case y4t => intro w h; (try dsimp only at h); go_simp; try with_reducible rfl
      simp only [sE0, sE1]; refine run_to 1 (bQ 10 31) o43_5_1 (by kernel_rfl) (by kernel_rfl) (by rfl) (fun K hK => ?_)
      go_simp; refine (DM.out _ (below_step hb5 hHeld.1) _ _ (hC5.below hHeld.1)).mono ?_; rintro e w' ⟨rfl, hbh⟩; go_wp2_with fail
      refine hK.out _ _ ?_ (fun hHeld => ?_)
      ·(exact HT.out _ (by first | exact hbd | exact hHeld.1 | exact below_step hHeld.1 (by assumption)))
      clear hK K; try simp only [Act.put, sEt, sE0, sE1]
      refine run_to 5 (bQ 10 63) o43_5_5 (by kernel_rfl) (by kernel_rfl) (by rfl) (fun K hK => ?_)
      go_simp; refine (but_calls _ _).mono ?_; rintro e w' ⟨rfl, hbh, hcap⟩; go_wp2_with fail
      refine hK.out _ _ ?_ (fun hHeld => ?_)
      ·(exact HT.out _ (by first | exact hbd | exact hHeld.1 | exact below_step hHeld.1 (by assumption)))
      clear hK K; try simp only [Act.put, sEt, sE0, sE1]
      refine run_to 6 (bQ 10 127) o43_5_6 (by kernel_rfl) (by kernel_rfl) (by rfl) (fun K hK => ?_)
      go_simp; refine (DB.out _ (below_step hb5 hHeld.1) _ _ (hC5.below hHeld.1) _ hcap).mono ?_; rintro e w' ⟨rfl, hbh⟩; go_wp2_with fail
      refine hK.out _ _ ?_ (fun hHeld => ?_)
      ·(exact HT.out _ (by first | exact hbd | exact hHeld.1 | exact below_step hHeld.1 (by assumption)))
      clear hK K; try simp only [Act.put, sEt, sE0, sE1]
      refine take_to 7 45 (bQ 10 255) (v := ?_) o43_5_7 rfl o43_5_ns (by kernel_rfl) (by kernel_rfl) (fun _ _ _ h => h) (by rfl) ?y7t (by assumption) ?_
      case y7t => intro w h; (try dsimp only at h); go_simp; try with_reducible rfl
      simp only [sE0, sE1]; refine take_to 8 6 (bQ 10 511) (v := ?_) o43_5_8 rfl o43_5_ns (by kernel_rfl) (by kernel_rfl) (fun _ _ _ h => h) (by rfl) ?y8t (by assumption) ?_
      case y8t => intro w h; (try dsimp only at h); go_simp; try with_reducible rfl
      simp only [sE0, sE1]; refine take_to 9 7 (bQ 10 1023) (v := ?_) o43_5_9 rfl o43_5_ns (by kernel_rfl) (by kernel_rfl) (fun _ _ _ h => h) (by rfl) ?y9t (by assumption) ?_
      case y9t => intro w h; (try dsimp only at h); go_simp; try with_reducible rfl
      simp only [sE0, sE1]; refine wpAnyH_done (by kernel_rfl) ?_ _
      have hbe := below_step hb5 hHeld.1; clear hHeld HT hbd; go_wp2_with fail
      go_ret2
      exact ⟨by show Ending.returned (.tuple #[.int .i64 (IntKind.i64.wrap (M1 - M2)), .int .i64 0]) = _; rw [show IntKind.i64.wrap (M1 - M2) = M1 - M2 from wrap_subG hm1 hm2 hm3 hm4], hbe⟩
     ·have hZ := heap_alloc_new wc (.cells #[.slice none 0 0, .slice none 0 0] 142)
      have hbn := below_alloc wc (.cells #[.slice none 0 0, .slice none 0 0] 142); have hgz := hC.1.size; go_simp; obtain ⟨wn, hwn⟩ : ∃ wn, wc.alloc (.cells #[.slice none 0 0, .slice none 0 0] 142) = wn := ⟨_, rfl⟩
      rw [hwn] at hZ hbn ⊢
      clear hwn; replace hC := HS.out _ (below_step hC.1 hbn); try replace hN := news_below hbn hN
      try replace hown := own_belowG hown hbn
      try replace hownF := own_belowG hownF hbn
      try replace hCa := hCa.below hbn
      clear hbn; obtain ⟨wc, rfl⟩ : ∃ wc, wc = wn := ⟨_, rfl⟩
      refine hK.out _ _ (fun _ => ?_) ?_
      ·(exact hC)
      clear hK K; try simp only [Act.put, sEt, sE0, sE1]
      refine readyC (rs := [6]) (by kernel_rfl) (by simp) (each_cons (runC o43_4_6 (by rfl) (fun K hK => ?_)) each_nil)
      go_simp; have hFr := fresh_own hownF; refine (DP.out _ hC.1 _ _ (hFr.ass (by simp; omega))).mono ?_
      rintro e w2 ⟨cv, rfl, hCa, hbc⟩; obtain ⟨wc, rfl⟩ : ∃ wc, wc = w2 := ⟨_, rfl⟩
      clear hFr hownF; obtain ⟨ca, cc, rfl⟩ := ca_shape hCa; replace hC := HS.out _ (below_step hC.1 hbc); try replace hZ := cells_later hZ hbc
      go_wp2_with fail
      refine hK.out _ _ (fun _ => ?_) ?_
      ·(exact hC)
      clear hK K; try simp only [Act.put, sEt, sE0, sE1]
      refine readyC (rs := [8]) (by kernel_rfl) (by simp) (each_cons (runC o43_4_8 (by rfl) (fun K hK => ?_)) each_nil)
      have hfz := fun o => frozen_ofG hZ o
      have z0 := cell_at hZ 0 rfl; have z1 := cell_at hZ 1 rfl; go_simp; refine hK.out _ _ (fun h => absurd h (by decide)) ?_
      clear hK K; try simp only [sEt, sE0, sE1]
      refine doneC (by kernel_rfl) ?_ _
      obtain ⟨gz, w5, hgq, hw5, hZo, hZ5, hg5, hgl⟩ := pool_put hZ hgz (.slice pa np pc) (.slice ca CS.length cc); rw [hgq]; rw [← hw5]; have hC5 : Cas w5 0 (.slice ca CS.length cc) CS := Cas.mono (show Cas w5 _ _ CS from Rows.row hCa hg5 (fun r hr => by cases hr; exact ⟨_, _, _, hZo, by decide⟩)) (Nat.zero_le _)
      have hb5 : Below w.heap.size w w5 := below_gbG (below_step HwW.out hC.1) hg5 (by have := HwW.out.size; omega)
      have hx5 := heap_gbG hC.2.2.2.2 hg5 (by have := HWs.out; omega)
      have x0 := cell_at hx5 0 rfl; have z0 := cell_at hZ5 0 rfl; have z1 := cell_at hZ5 1 rfl; have HT := Lib.hid (show ∀ w', Below w5.heap.size w5 w' → (Below w5.heap.size w5 w' ∧ w'.cell? ⟨gz, 0, none⟩ = some (.slice pa np pc) ∧ w'.cell? ⟨gz, 1, none⟩ = some (.slice ca CS.length cc) ∧ w'.cell? ⟨w.heap.size, 0, none⟩ = some (.string x.player)) from fun w' hb => ⟨hb, below_cell hb z0, below_cell hb z1, below_cell hb x0⟩)
      have hbd := (Below.refl w5.heap.size w5).drew; clear x0 z0 z1 hx5 hZ5 hZo hZ hC hCa hw5 hgq hgz hfz HS hg5; go_upto_region 5 with fail
      show Code.wp _ (Code.region 5 o43_5 true) _ _ _
      refine region_start 10 (fun w' => Below w5.heap.size w5 w' ∧ w'.cell? ⟨gz, 0, none⟩ = some (.slice pa np pc) ∧ w'.cell? ⟨gz, 1, none⟩ = some (.slice ca CS.length cc) ∧ w'.cell? ⟨w.heap.size, 0, none⟩ = some (.string x.player)) (by kernel_rfl) rfl ?_ (fun hHeld => ?_)
      ·(exact HT.out _ (by first | exact hbd | exact hHeld.1 | exact below_step hHeld.1 (by assumption)))
      refine take_to 0 38 (bQ 10 1) (v := ?_) o43_5_0 rfl o43_5_ns (by kernel_rfl) (by kernel_rfl) (fun _ _ _ h => h) (by rfl) ?y0t (by assumption) ?_
      case y0t => intro w h; (try dsimp only at h); go_simp; try with_reducible rfl
      simp only [sE0, sE1]; refine take_to 2 40 (bQ 10 5) (v := ?_) o43_5_2 rfl o43_5_ns (by kernel_rfl) (by kernel_rfl) (fun _ _ _ h => h) (by rfl) ?y2t (by assumption) ?_
      case y2t => intro w h; (try dsimp only at h); go_simp; try with_reducible rfl
      simp only [sE0, sE1]; refine take_to 3 41 (bQ 10 13) (v := ?_) o43_5_3 rfl o43_5_ns (by kernel_rfl) (by kernel_rfl) (fun _ _ _ h => h) (by rfl) ?y3t (by assumption) ?_
      case y3t => intro w h; (try dsimp only at h); go_simp; try with_reducible rfl
      simp only [sE0, sE1]; refine take_to 4 42 (bQ 10 29) (v := ?_) o43_5_4 rfl o43_5_ns (by kernel_rfl) (by kernel_rfl) (fun _ _ _ h => h) (by rfl) ?y4t (by assumption) ?_
      case y4t => intro w h; (try dsimp only at h); go_simp; try with_reducible rfl
      simp only [sE0, sE1]; refine run_to 1 (bQ 10 31) o43_5_1 (by kernel_rfl) (by kernel_rfl) (by rfl) (fun K hK => ?_)
      go_simp; refine (DM.out _ (below_step hb5 hHeld.1) _ _ (hC5.below hHeld.1)).mono ?_; rintro e w' ⟨rfl, hbh⟩; go_wp2_with fail
      refine hK.out _ _ ?_ (fun hHeld => ?_)
      ·(exact HT.out _ (by first | exact hbd | exact hHeld.1 | exact below_step hHeld.1 (by assumption)))
      clear hK K; try simp only [Act.put, sEt, sE0, sE1]
      refine run_to 5 (bQ 10 63) o43_5_5 (by kernel_rfl) (by kernel_rfl) (by rfl) (fun K hK => ?_)
      go_simp; refine (but_calls _ _).mono ?_; rintro e w' ⟨rfl, hbh, hcap⟩; go_wp2_with fail
      refine hK.out _ _ ?_ (fun hHeld => ?_)
      ·(exact HT.out _ (by first | exact hbd | exact hHeld.1 | exact below_step hHeld.1 (by assumption)))
      clear hK K; try simp only [Act.put, sEt, sE0, sE1]
      refine run_to 6 (bQ 10 127) o43_5_6 (by kernel_rfl) (by kernel_rfl) (by rfl) (fun K hK => ?_)
      go_simp; refine (DB.out _ (below_step hb5 hHeld.1) _ _ (hC5.below hHeld.1) _ hcap).mono ?_; rintro e w' ⟨rfl, hbh⟩; go_wp2_with fail
      refine hK.out _ _ ?_ (fun hHeld => ?_)
      ·(exact HT.out _ (by first | exact hbd | exact hHeld.1 | exact below_step hHeld.1 (by assumption)))
      clear hK K; try simp only [Act.put, sEt, sE0, sE1]
      refine take_to 7 45 (bQ 10 255) (v := ?_) o43_5_7 rfl o43_5_ns (by kernel_rfl) (by kernel_rfl) (fun _ _ _ h => h) (by rfl) ?y7t (by assumption) ?_
      case y7t => intro w h; (try dsimp only at h); go_simp; try with_reducible rfl
      simp only [sE0, sE1]; refine take_to 8 6 (bQ 10 511) (v := ?_) o43_5_8 rfl o43_5_ns (by kernel_rfl) (by kernel_rfl) (fun _ _ _ h => h) (by rfl) ?y8t (by assumption) ?_
      case y8t => intro w h; (try dsimp only at h); go_simp; try with_reducible rfl
      simp only [sE0, sE1]; refine take_to 9 7 (bQ 10 1023) (v := ?_) o43_5_9 rfl o43_5_ns (by kernel_rfl) (by kernel_rfl) (fun _ _ _ h => h) (by rfl) ?y9t (by assumption) ?_
      case y9t => intro w h; (try dsimp only at h); go_simp; try with_reducible rfl
      simp only [sE0, sE1]; refine wpAnyH_done (by kernel_rfl) ?_ _
      have hbe := below_step hb5 hHeld.1; clear hHeld HT hbd; go_wp2_with fail
      go_ret2
      exact ⟨by show Ending.returned (.tuple #[.int .i64 (IntKind.i64.wrap (M1 - M2)), .int .i64 0]) = _; rw [show IntKind.i64.wrap (M1 - M2) = M1 - M2 from wrap_subG hm1 hm2 hm3 hm4], hbe⟩
    ·have hZ := heap_alloc_new wc (.cells #[.slice none 0 0, .slice none 0 0] 142)
     have hbn := below_alloc wc (.cells #[.slice none 0 0, .slice none 0 0] 142); have hgz := hC.1.size; go_simp; obtain ⟨wn, hwn⟩ : ∃ wn, wc.alloc (.cells #[.slice none 0 0, .slice none 0 0] 142) = wn := ⟨_, rfl⟩
     rw [hwn] at hZ hbn ⊢
     clear hwn; replace hC := HS.out _ (below_step hC.1 hbn); try replace hN := news_below hbn hN
     try replace hown := own_belowG hown hbn
     try replace hownF := own_belowG hownF hbn
     try replace hCa := hCa.below hbn
     clear hbn; obtain ⟨wc, rfl⟩ : ∃ wc, wc = wn := ⟨_, rfl⟩
     refine hK.out _ _ (fun _ => ?_) ?_
     ·(exact hC)
     clear hK K; try simp only [Act.put, sEt, sE0, sE1]
     refine readyC (rs := [4]) (by kernel_rfl) (by simp) (each_cons (runC o43_4_4 (by rfl) (fun K hK => ?_)) each_nil)
     refine wp_append_at _ (.tmp 32) (.tmp 34) 52 rfl W.heap.size 78 i0 (.agg #[.string ⟨#[]⟩, .string ⟨#[]⟩, .int .i64 0]) 3 40 Tryz.underlying52 hi hz0 hz1 hz2 rfl (by decide) v1 xs.length _ rfl hown _ 1 1 [.string x.player, .string x.pos, .int .i64 x.value] rfl rfl hN (by simp [Value.oneCell']) (by unfold maxLen; omega) (by omega) hC.1.size ?_
     intro v2 w2 hown2 hgrow; have hCb := HS.out _ (hC.1.grown hgrow hC.1.size fun r hr => (own_block hown r hr).1)
     try replace hZ := (hgrow.block _ (lt_of_heap hZ) (fun e => by obtain ⟨_, cur, hc⟩ := own_block hown _ e.symm; rw [hZ] at hc; simp at hc)).trans hZ
     have hownF : OwnAs w2 W.heap.size v2 (xs ++ [x]) := by
      unfold OwnAs; have e : ((xs ++ [x]).map asRow).flatten = (xs.map asRow).flatten ++ [.string x.player, .string x.pos, .int .i64 x.value] := by simp [asRow]
      rw [e, List.length_append]; exact hown2
     clear hgrow hown hC hN hown2; have hC := hCb; clear hCb; obtain ⟨wc, rfl⟩ : ∃ wc, wc = w2 := ⟨_, rfl⟩
     refine hK.out _ _ (fun h => absurd h (by decide)) ?_
     clear hK K; try simp only [Act.put, sEt, sE0, sE1]
     refine readyC (rs := [6]) (by kernel_rfl) (by simp) (each_cons (runC o43_4_6 (by rfl) (fun K hK => ?_)) each_nil)
     go_simp; have hFr := fresh_own hownF; refine (DP.out _ hC.1 _ _ (hFr.ass (by simp; omega))).mono ?_
     rintro e w2 ⟨cv, rfl, hCa, hbc⟩; obtain ⟨wc, rfl⟩ : ∃ wc, wc = w2 := ⟨_, rfl⟩
     clear hFr hownF; obtain ⟨ca, cc, rfl⟩ := ca_shape hCa; replace hC := HS.out _ (below_step hC.1 hbc); try replace hZ := cells_later hZ hbc
     go_wp2_with fail
     refine hK.out _ _ (fun _ => ?_) ?_
     ·(exact hC)
     clear hK K; try simp only [Act.put, sEt, sE0, sE1]
     refine readyC (rs := [8]) (by kernel_rfl) (by simp) (each_cons (runC o43_4_8 (by rfl) (fun K hK => ?_)) each_nil)
     have hfz := fun o => frozen_ofG hZ o
     have z0 := cell_at hZ 0 rfl; have z1 := cell_at hZ 1 rfl; go_simp; refine hK.out _ _ (fun h => absurd h (by decide)) ?_
     clear hK K; try simp only [sEt, sE0, sE1]
     refine doneC (by kernel_rfl) ?_ _
     obtain ⟨gz, w5, hgq, hw5, hZo, hZ5, hg5, hgl⟩ := pool_put hZ hgz (.slice pa np pc) (.slice ca CS.length cc); rw [hgq]; rw [← hw5]; have hC5 : Cas w5 0 (.slice ca CS.length cc) CS := Cas.mono (show Cas w5 _ _ CS from Rows.row hCa hg5 (fun r hr => by cases hr; exact ⟨_, _, _, hZo, by decide⟩)) (Nat.zero_le _)
     have hb5 : Below w.heap.size w w5 := below_gbG (below_step HwW.out hC.1) hg5 (by have := HwW.out.size; omega)
     have hx5 := heap_gbG hC.2.2.2.2 hg5 (by have := HWs.out; omega)
     have x0 := cell_at hx5 0 rfl; have z0 := cell_at hZ5 0 rfl; have z1 := cell_at hZ5 1 rfl; have HT := Lib.hid (show ∀ w', Below w5.heap.size w5 w' → (Below w5.heap.size w5 w' ∧ w'.cell? ⟨gz, 0, none⟩ = some (.slice pa np pc) ∧ w'.cell? ⟨gz, 1, none⟩ = some (.slice ca CS.length cc) ∧ w'.cell? ⟨w.heap.size, 0, none⟩ = some (.string x.player)) from fun w' hb => ⟨hb, below_cell hb z0, below_cell hb z1, below_cell hb x0⟩)
     have hbd := (Below.refl w5.heap.size w5).drew; clear x0 z0 z1 hx5 hZ5 hZo hZ hC hCa hw5 hgq hgz hfz HS hg5; go_upto_region 5 with fail
     show Code.wp _ (Code.region 5 o43_5 true) _ _ _
     refine region_start 10 (fun w' => Below w5.heap.size w5 w' ∧ w'.cell? ⟨gz, 0, none⟩ = some (.slice pa np pc) ∧ w'.cell? ⟨gz, 1, none⟩ = some (.slice ca CS.length cc) ∧ w'.cell? ⟨w.heap.size, 0, none⟩ = some (.string x.player)) (by kernel_rfl) rfl ?_ (fun hHeld => ?_)
     ·(exact HT.out _ (by first | exact hbd | exact hHeld.1 | exact below_step hHeld.1 (by assumption)))
     refine take_to 0 38 (bQ 10 1) (v := ?_) o43_5_0 rfl o43_5_ns (by kernel_rfl) (by kernel_rfl) (fun _ _ _ h => h) (by rfl) ?y0t (by assumption) ?_
     case y0t => intro w h; (try dsimp only at h); go_simp; try with_reducible rfl
     simp only [sE0, sE1]; refine take_to 2 40 (bQ 10 5) (v := ?_) o43_5_2 rfl o43_5_ns (by kernel_rfl) (by kernel_rfl) (fun _ _ _ h => h) (by rfl) ?y2t (by assumption) ?_
     case y2t => intro w h; (try dsimp only at h); go_simp; try with_reducible rfl
     simp only [sE0, sE1]; refine take_to 3 41 (bQ 10 13) (v := ?_) o43_5_3 rfl o43_5_ns (by kernel_rfl) (by kernel_rfl) (fun _ _ _ h => h) (by rfl) ?y3t (by assumption) ?_
     case y3t => intro w h; (try dsimp only at h); go_simp; try with_reducible rfl
     simp only [sE0, sE1]; refine take_to 4 42 (bQ 10 29) (v := ?_) o43_5_4 rfl o43_5_ns (by kernel_rfl) (by kernel_rfl) (fun _ _ _ h => h) (by rfl) ?y4t (by assumption) ?_
     case y4t => intro w h; (try dsimp only at h); go_simp; try with_reducible rfl
     simp only [sE0, sE1]; refine run_to 1 (bQ 10 31) o43_5_1 (by kernel_rfl) (by kernel_rfl) (by rfl) (fun K hK => ?_)
     go_simp; refine (DM.out _ (below_step hb5 hHeld.1) _ _ (hC5.below hHeld.1)).mono ?_; rintro e w' ⟨rfl, hbh⟩; go_wp2_with fail
     refine hK.out _ _ ?_ (fun hHeld => ?_)
     ·(exact HT.out _ (by first | exact hbd | exact hHeld.1 | exact below_step hHeld.1 (by assumption)))
     clear hK K; try simp only [Act.put, sEt, sE0, sE1]
     refine run_to 5 (bQ 10 63) o43_5_5 (by kernel_rfl) (by kernel_rfl) (by rfl) (fun K hK => ?_)
     go_simp; refine (but_calls _ _).mono ?_; rintro e w' ⟨rfl, hbh, hcap⟩; go_wp2_with fail
     refine hK.out _ _ ?_ (fun hHeld => ?_)
     ·(exact HT.out _ (by first | exact hbd | exact hHeld.1 | exact below_step hHeld.1 (by assumption)))
     clear hK K; try simp only [Act.put, sEt, sE0, sE1]
     refine run_to 6 (bQ 10 127) o43_5_6 (by kernel_rfl) (by kernel_rfl) (by rfl) (fun K hK => ?_)
     go_simp; refine (DB.out _ (below_step hb5 hHeld.1) _ _ (hC5.below hHeld.1) _ hcap).mono ?_; rintro e w' ⟨rfl, hbh⟩; go_wp2_with fail
     refine hK.out _ _ ?_ (fun hHeld => ?_)
     ·(exact HT.out _ (by first | exact hbd | exact hHeld.1 | exact below_step hHeld.1 (by assumption)))
     clear hK K; try simp only [Act.put, sEt, sE0, sE1]
     refine take_to 7 45 (bQ 10 255) (v := ?_) o43_5_7 rfl o43_5_ns (by kernel_rfl) (by kernel_rfl) (fun _ _ _ h => h) (by rfl) ?y7t (by assumption) ?_
     case y7t => intro w h; (try dsimp only at h); go_simp; try with_reducible rfl
     simp only [sE0, sE1]; refine take_to 8 6 (bQ 10 511) (v := ?_) o43_5_8 rfl o43_5_ns (by kernel_rfl) (by kernel_rfl) (fun _ _ _ h => h) (by rfl) ?y8t (by assumption) ?_
     case y8t => intro w h; (try dsimp only at h); go_simp; try with_reducible rfl
     simp only [sE0, sE1]; refine take_to 9 7 (bQ 10 1023) (v := ?_) o43_5_9 rfl o43_5_ns (by kernel_rfl) (by kernel_rfl) (fun _ _ _ h => h) (by rfl) ?y9t (by assumption) ?_
     case y9t => intro w h; (try dsimp only at h); go_simp; try with_reducible rfl
     simp only [sE0, sE1]; refine wpAnyH_done (by kernel_rfl) ?_ _
     have hbe := below_step hb5 hHeld.1; clear hHeld HT hbd; go_wp2_with fail
     go_ret2
     exact ⟨by show Ending.returned (.tuple #[.int .i64 (IntKind.i64.wrap (M1 - M2)), .int .i64 0]) = _; rw [show IntKind.i64.wrap (M1 - M2) = M1 - M2 from wrap_subG hm1 hm2 hm3 hm4], hbe⟩
   ·have hZ := heap_alloc_new wc (.cells #[.slice none 0 0, .slice none 0 0] 142)
    have hbn := below_alloc wc (.cells #[.slice none 0 0, .slice none 0 0] 142); have hgz := hC.1.size; go_simp; obtain ⟨wn, hwn⟩ : ∃ wn, wc.alloc (.cells #[.slice none 0 0, .slice none 0 0] 142) = wn := ⟨_, rfl⟩
    rw [hwn] at hZ hbn ⊢
    clear hwn; replace hC := HS.out _ (below_step hC.1 hbn); try replace hN := news_below hbn hN
    try replace hown := own_belowG hown hbn
    try replace hownF := own_belowG hownF hbn
    try replace hCa := hCa.below hbn
    clear hbn; obtain ⟨wc, rfl⟩ : ∃ wc, wc = wn := ⟨_, rfl⟩
    refine hK.out _ _ (fun _ => ?_) ?_
    ·(exact hC)
    clear hK K; try simp only [Act.put, sEt, sE0, sE1]
    refine readyC (rs := [3]) (by kernel_rfl) (by simp) (each_cons (runC o43_4_3 (by rfl) (fun K hK => ?_)) each_nil)
    have hN := cells_newG wc [.string x.player, .string x.pos, .int .i64 x.value] 78; have hbn := below_alloc wc (.cells #[.string x.player, .string x.pos, .int .i64 x.value] 78); go_simp; obtain ⟨wn, hwn⟩ : ∃ wn, wc.alloc (.cells #[.string x.player, .string x.pos, .int .i64 x.value] 78) = wn := ⟨_, rfl⟩
    rw [hwn] at hN hbn ⊢
    clear hwn; replace hC := HS.out _ (below_step hC.1 hbn); try replace hZ := cells_later hZ hbn
    try replace hown := own_belowG hown hbn
    try replace hownF := own_belowG hownF hbn
    try replace hCa := hCa.below hbn
    clear hbn; obtain ⟨wc, rfl⟩ : ∃ wc, wc = wn := ⟨_, rfl⟩
    refine hK.out _ _ (fun _ => ?_) ?_
    ·(exact hC)
    clear hK K; try simp only [Act.put, sEt, sE0, sE1]
    refine readyC (rs := [4]) (by kernel_rfl) (by simp) (each_cons (runC o43_4_4 (by rfl) (fun K hK => ?_)) each_nil)
    refine wp_append_at _ (.tmp 32) (.tmp 34) 52 rfl W.heap.size 78 i0 (.agg #[.string ⟨#[]⟩, .string ⟨#[]⟩, .int .i64 0]) 3 40 Tryz.underlying52 hi hz0 hz1 hz2 rfl (by decide) v1 xs.length _ rfl hown _ 1 1 [.string x.player, .string x.pos, .int .i64 x.value] rfl rfl hN (by simp [Value.oneCell']) (by unfold maxLen; omega) (by omega) hC.1.size ?_
    intro v2 w2 hown2 hgrow; have hCb := HS.out _ (hC.1.grown hgrow hC.1.size fun r hr => (own_block hown r hr).1)
    try replace hZ := (hgrow.block _ (lt_of_heap hZ) (fun e => by obtain ⟨_, cur, hc⟩ := own_block hown _ e.symm; rw [hZ] at hc; simp at hc)).trans hZ
    have hownF : OwnAs w2 W.heap.size v2 (xs ++ [x]) := by
     unfold OwnAs; have e : ((xs ++ [x]).map asRow).flatten = (xs.map asRow).flatten ++ [.string x.player, .string x.pos, .int .i64 x.value] := by simp [asRow]
     rw [e, List.length_append]; exact hown2
    clear hgrow hown hC hN hown2; have hC := hCb; clear hCb; obtain ⟨wc, rfl⟩ : ∃ wc, wc = w2 := ⟨_, rfl⟩
    refine hK.out _ _ (fun h => absurd h (by decide)) ?_
    clear hK K; try simp only [Act.put, sEt, sE0, sE1]
    refine readyC (rs := [6]) (by kernel_rfl) (by simp) (each_cons (runC o43_4_6 (by rfl) (fun K hK => ?_)) each_nil)
    go_simp; have hFr := fresh_own hownF; refine (DP.out _ hC.1 _ _ (hFr.ass (by simp; omega))).mono ?_
    rintro e w2 ⟨cv, rfl, hCa, hbc⟩; obtain ⟨wc, rfl⟩ : ∃ wc, wc = w2 := ⟨_, rfl⟩
    clear hFr hownF; obtain ⟨ca, cc, rfl⟩ := ca_shape hCa; replace hC := HS.out _ (below_step hC.1 hbc); try replace hZ := cells_later hZ hbc
    go_wp2_with fail
    refine hK.out _ _ (fun _ => ?_) ?_
    ·(exact hC)
    clear hK K; try simp only [Act.put, sEt, sE0, sE1]
    refine readyC (rs := [8]) (by kernel_rfl) (by simp) (each_cons (runC o43_4_8 (by rfl) (fun K hK => ?_)) each_nil)
    have hfz := fun o => frozen_ofG hZ o
    have z0 := cell_at hZ 0 rfl; have z1 := cell_at hZ 1 rfl; go_simp; refine hK.out _ _ (fun h => absurd h (by decide)) ?_
    clear hK K; try simp only [sEt, sE0, sE1]
    refine doneC (by kernel_rfl) ?_ _
    obtain ⟨gz, w5, hgq, hw5, hZo, hZ5, hg5, hgl⟩ := pool_put hZ hgz (.slice pa np pc) (.slice ca CS.length cc); rw [hgq]; rw [← hw5]; have hC5 : Cas w5 0 (.slice ca CS.length cc) CS := Cas.mono (show Cas w5 _ _ CS from Rows.row hCa hg5 (fun r hr => by cases hr; exact ⟨_, _, _, hZo, by decide⟩)) (Nat.zero_le _)
    have hb5 : Below w.heap.size w w5 := below_gbG (below_step HwW.out hC.1) hg5 (by have := HwW.out.size; omega)
    have hx5 := heap_gbG hC.2.2.2.2 hg5 (by have := HWs.out; omega)
    have x0 := cell_at hx5 0 rfl; have z0 := cell_at hZ5 0 rfl; have z1 := cell_at hZ5 1 rfl; have HT := Lib.hid (show ∀ w', Below w5.heap.size w5 w' → (Below w5.heap.size w5 w' ∧ w'.cell? ⟨gz, 0, none⟩ = some (.slice pa np pc) ∧ w'.cell? ⟨gz, 1, none⟩ = some (.slice ca CS.length cc) ∧ w'.cell? ⟨w.heap.size, 0, none⟩ = some (.string x.player)) from fun w' hb => ⟨hb, below_cell hb z0, below_cell hb z1, below_cell hb x0⟩)
    have hbd := (Below.refl w5.heap.size w5).drew; clear x0 z0 z1 hx5 hZ5 hZo hZ hC hCa hw5 hgq hgz hfz HS hg5; go_upto_region 5 with fail
    show Code.wp _ (Code.region 5 o43_5 true) _ _ _
    refine region_start 10 (fun w' => Below w5.heap.size w5 w' ∧ w'.cell? ⟨gz, 0, none⟩ = some (.slice pa np pc) ∧ w'.cell? ⟨gz, 1, none⟩ = some (.slice ca CS.length cc) ∧ w'.cell? ⟨w.heap.size, 0, none⟩ = some (.string x.player)) (by kernel_rfl) rfl ?_ (fun hHeld => ?_)
    ·(exact HT.out _ (by first | exact hbd | exact hHeld.1 | exact below_step hHeld.1 (by assumption)))
    refine take_to 0 38 (bQ 10 1) (v := ?_) o43_5_0 rfl o43_5_ns (by kernel_rfl) (by kernel_rfl) (fun _ _ _ h => h) (by rfl) ?y0t (by assumption) ?_
    case y0t => intro w h; (try dsimp only at h); go_simp; try with_reducible rfl
    simp only [sE0, sE1]; refine take_to 2 40 (bQ 10 5) (v := ?_) o43_5_2 rfl o43_5_ns (by kernel_rfl) (by kernel_rfl) (fun _ _ _ h => h) (by rfl) ?y2t (by assumption) ?_
    case y2t => intro w h; (try dsimp only at h); go_simp; try with_reducible rfl
    simp only [sE0, sE1]; refine take_to 3 41 (bQ 10 13) (v := ?_) o43_5_3 rfl o43_5_ns (by kernel_rfl) (by kernel_rfl) (fun _ _ _ h => h) (by rfl) ?y3t (by assumption) ?_
    case y3t => intro w h; (try dsimp only at h); go_simp; try with_reducible rfl
    simp only [sE0, sE1]; refine take_to 4 42 (bQ 10 29) (v := ?_) o43_5_4 rfl o43_5_ns (by kernel_rfl) (by kernel_rfl) (fun _ _ _ h => h) (by rfl) ?y4t (by assumption) ?_
    case y4t => intro w h; (try dsimp only at h); go_simp; try with_reducible rfl
    simp only [sE0, sE1]; refine run_to 1 (bQ 10 31) o43_5_1 (by kernel_rfl) (by kernel_rfl) (by rfl) (fun K hK => ?_)
    go_simp; refine (DM.out _ (below_step hb5 hHeld.1) _ _ (hC5.below hHeld.1)).mono ?_; rintro e w' ⟨rfl, hbh⟩; go_wp2_with fail
    refine hK.out _ _ ?_ (fun hHeld => ?_)
    ·(exact HT.out _ (by first | exact hbd | exact hHeld.1 | exact below_step hHeld.1 (by assumption)))
    clear hK K; try simp only [Act.put, sEt, sE0, sE1]
    refine run_to 5 (bQ 10 63) o43_5_5 (by kernel_rfl) (by kernel_rfl) (by rfl) (fun K hK => ?_)
    go_simp; refine (but_calls _ _).mono ?_; rintro e w' ⟨rfl, hbh, hcap⟩; go_wp2_with fail
    refine hK.out _ _ ?_ (fun hHeld => ?_)
    ·(exact HT.out _ (by first | exact hbd | exact hHeld.1 | exact below_step hHeld.1 (by assumption)))
    clear hK K; try simp only [Act.put, sEt, sE0, sE1]
    refine run_to 6 (bQ 10 127) o43_5_6 (by kernel_rfl) (by kernel_rfl) (by rfl) (fun K hK => ?_)
    go_simp; refine (DB.out _ (below_step hb5 hHeld.1) _ _ (hC5.below hHeld.1) _ hcap).mono ?_; rintro e w' ⟨rfl, hbh⟩; go_wp2_with fail
    refine hK.out _ _ ?_ (fun hHeld => ?_)
    ·(exact HT.out _ (by first | exact hbd | exact hHeld.1 | exact below_step hHeld.1 (by assumption)))
    clear hK K; try simp only [Act.put, sEt, sE0, sE1]
    refine take_to 7 45 (bQ 10 255) (v := ?_) o43_5_7 rfl o43_5_ns (by kernel_rfl) (by kernel_rfl) (fun _ _ _ h => h) (by rfl) ?y7t (by assumption) ?_
    case y7t => intro w h; (try dsimp only at h); go_simp; try with_reducible rfl
    simp only [sE0, sE1]; refine take_to 8 6 (bQ 10 511) (v := ?_) o43_5_8 rfl o43_5_ns (by kernel_rfl) (by kernel_rfl) (fun _ _ _ h => h) (by rfl) ?y8t (by assumption) ?_
    case y8t => intro w h; (try dsimp only at h); go_simp; try with_reducible rfl
    simp only [sE0, sE1]; refine take_to 9 7 (bQ 10 1023) (v := ?_) o43_5_9 rfl o43_5_ns (by kernel_rfl) (by kernel_rfl) (fun _ _ _ h => h) (by rfl) ?y9t (by assumption) ?_
    case y9t => intro w h; (try dsimp only at h); go_simp; try with_reducible rfl
    simp only [sE0, sE1]; refine wpAnyH_done (by kernel_rfl) ?_ _
    have hbe := below_step hb5 hHeld.1; clear hHeld HT hbd; go_wp2_with fail
    go_ret2
    exact ⟨by show Ending.returned (.tuple #[.int .i64 (IntKind.i64.wrap (M1 - M2)), .int .i64 0]) = _; rw [show IntKind.i64.wrap (M1 - M2) = M1 - M2 from wrap_subG hm1 hm2 hm3 hm4], hbe⟩
  ·have hN := cells_newG wc [.string x.player, .string x.pos, .int .i64 x.value] 78
   have hbn := below_alloc wc (.cells #[.string x.player, .string x.pos, .int .i64 x.value] 78); go_simp; obtain ⟨wn, hwn⟩ : ∃ wn, wc.alloc (.cells #[.string x.player, .string x.pos, .int .i64 x.value] 78) = wn := ⟨_, rfl⟩
   rw [hwn] at hN hbn ⊢
   clear hwn; replace hC := HS.out _ (below_step hC.1 hbn); try replace hZ := cells_later hZ hbn
   try replace hown := own_belowG hown hbn
   try replace hownF := own_belowG hownF hbn
   try replace hCa := hCa.below hbn
   clear hbn; obtain ⟨wc, rfl⟩ : ∃ wc, wc = wn := ⟨_, rfl⟩
   refine hK.out _ _ (fun _ => ?_) ?_
   ·(exact hC)
   clear hK K; try simp only [Act.put, sEt, sE0, sE1]
   refine readyC (rs := [1, 7]) (by kernel_rfl) (by simp) (each_cons (runC o43_4_1 (by rfl) (fun K hK => ?_)) (each_cons (runC o43_4_7 (by rfl) (fun K hK => ?_)) each_nil))
   ·go_simp
    refine (C.out _ hC.1).mono ?_; rintro e w2 ⟨v1, hown, rfl, hbc⟩; replace hown := World.ownsRow.mono hown hC.1.size; obtain ⟨wc, rfl⟩ : ∃ wc, wc = w2 := ⟨_, rfl⟩
    replace hC := HS.out _ (below_step hC.1 hbc); try replace hZ := cells_later hZ hbc
    try replace hN := news_below hbc hN
    try replace hown2 := own_belowG hown2 hbc
    try replace hCa := hCa.below hbc
    go_wp2_with fail
    refine hK.out _ _ (fun _ => ?_) ?_
    ·(exact hC)
    clear hK K; try simp only [Act.put, sEt, sE0, sE1]
    refine readyC (rs := [4, 7]) (by kernel_rfl) (by simp) (each_cons (runC o43_4_4 (by rfl) (fun K hK => ?_)) (each_cons (runC o43_4_7 (by rfl) (fun K hK => ?_)) each_nil))
    ·refine wp_append_at _ (.tmp 32) (.tmp 34) 52 rfl W.heap.size 78 i0 (.agg #[.string ⟨#[]⟩, .string ⟨#[]⟩, .int .i64 0]) 3 40 Tryz.underlying52 hi hz0 hz1 hz2 rfl (by decide) v1 xs.length _ rfl hown _ 1 1 [.string x.player, .string x.pos, .int .i64 x.value] rfl rfl hN (by simp [Value.oneCell']) (by unfold maxLen; omega) (by omega) hC.1.size ?_
     intro v2 w2 hown2 hgrow; have hCb := HS.out _ (hC.1.grown hgrow hC.1.size fun r hr => (own_block hown r hr).1)
     try replace hZ := (hgrow.block _ (lt_of_heap hZ) (fun e => by obtain ⟨_, cur, hc⟩ := own_block hown _ e.symm; rw [hZ] at hc; simp at hc)).trans hZ
     have hownF : OwnAs w2 W.heap.size v2 (xs ++ [x]) := by
      unfold OwnAs; have e : ((xs ++ [x]).map asRow).flatten = (xs.map asRow).flatten ++ [.string x.player, .string x.pos, .int .i64 x.value] := by simp [asRow]
      rw [e, List.length_append]; exact hown2
     clear hgrow hown hC hN hown2; have hC := hCb; clear hCb; obtain ⟨wc, rfl⟩ : ∃ wc, wc = w2 := ⟨_, rfl⟩
     refine hK.out _ _ (fun h => absurd h (by decide)) ?_
     clear hK K; try simp only [Act.put, sEt, sE0, sE1]
     refine readyC (rs := [6, 7]) (by kernel_rfl) (by simp) (each_cons (runC o43_4_6 (by rfl) (fun K hK => ?_)) (each_cons (runC o43_4_7 (by rfl) (fun K hK => ?_)) each_nil))
     ·go_simp
      have hFr := fresh_own hownF; refine (DP.out _ hC.1 _ _ (hFr.ass (by simp; omega))).mono ?_
      rintro e w2 ⟨cv, rfl, hCa, hbc⟩; obtain ⟨wc, rfl⟩ : ∃ wc, wc = w2 := ⟨_, rfl⟩
      clear hFr hownF; obtain ⟨ca, cc, rfl⟩ := ca_shape hCa; replace hC := HS.out _ (below_step hC.1 hbc); try replace hZ := cells_later hZ hbc
      go_wp2_with fail
      refine hK.out _ _ (fun _ => ?_) ?_
      ·(exact hC)
      clear hK K; try simp only [Act.put, sEt, sE0, sE1]
      refine readyC (rs := [7]) (by kernel_rfl) (by simp) (each_cons (runC o43_4_7 (by rfl) (fun K hK => ?_)) each_nil)
      have hZ := heap_alloc_new wc (.cells #[.slice none 0 0, .slice none 0 0] 142); have hbn := below_alloc wc (.cells #[.slice none 0 0, .slice none 0 0] 142); have hgz := hC.1.size; go_simp; obtain ⟨wn, hwn⟩ : ∃ wn, wc.alloc (.cells #[.slice none 0 0, .slice none 0 0] 142) = wn := ⟨_, rfl⟩
      rw [hwn] at hZ hbn ⊢
      clear hwn; replace hC := HS.out _ (below_step hC.1 hbn); try replace hN := news_below hbn hN
      try replace hown := own_belowG hown hbn
      try replace hownF := own_belowG hownF hbn
      try replace hCa := hCa.below hbn
      clear hbn; obtain ⟨wc, rfl⟩ : ∃ wc, wc = wn := ⟨_, rfl⟩
      refine hK.out _ _ (fun _ => ?_) ?_
      ·(exact hC)
      clear hK K; try simp only [Act.put, sEt, sE0, sE1]
      refine readyC (rs := [8]) (by kernel_rfl) (by simp) (each_cons (runC o43_4_8 (by rfl) (fun K hK => ?_)) each_nil)
      have hfz := fun o => frozen_ofG hZ o
      have z0 := cell_at hZ 0 rfl; have z1 := cell_at hZ 1 rfl; go_simp; refine hK.out _ _ (fun h => absurd h (by decide)) ?_
      clear hK K; try simp only [sEt, sE0, sE1]
      refine doneC (by kernel_rfl) ?_ _
      obtain ⟨gz, w5, hgq, hw5, hZo, hZ5, hg5, hgl⟩ := pool_put hZ hgz (.slice pa np pc) (.slice ca CS.length cc); rw [hgq]; rw [← hw5]; have hC5 : Cas w5 0 (.slice ca CS.length cc) CS := Cas.mono (show Cas w5 _ _ CS from Rows.row hCa hg5 (fun r hr => by cases hr; exact ⟨_, _, _, hZo, by decide⟩)) (Nat.zero_le _)
      have hb5 : Below w.heap.size w w5 := below_gbG (below_step HwW.out hC.1) hg5 (by have := HwW.out.size; omega)
      have hx5 := heap_gbG hC.2.2.2.2 hg5 (by have := HWs.out; omega)
      have x0 := cell_at hx5 0 rfl; have z0 := cell_at hZ5 0 rfl; have z1 := cell_at hZ5 1 rfl; have HT := Lib.hid (show ∀ w', Below w5.heap.size w5 w' → (Below w5.heap.size w5 w' ∧ w'.cell? ⟨gz, 0, none⟩ = some (.slice pa np pc) ∧ w'.cell? ⟨gz, 1, none⟩ = some (.slice ca CS.length cc) ∧ w'.cell? ⟨w.heap.size, 0, none⟩ = some (.string x.player)) from fun w' hb => ⟨hb, below_cell hb z0, below_cell hb z1, below_cell hb x0⟩)
      have hbd := (Below.refl w5.heap.size w5).drew; clear x0 z0 z1 hx5 hZ5 hZo hZ hC hCa hw5 hgq hgz hfz HS hg5; go_upto_region 5 with fail
      show Code.wp _ (Code.region 5 o43_5 true) _ _ _
      refine region_start 10 (fun w' => Below w5.heap.size w5 w' ∧ w'.cell? ⟨gz, 0, none⟩ = some (.slice pa np pc) ∧ w'.cell? ⟨gz, 1, none⟩ = some (.slice ca CS.length cc) ∧ w'.cell? ⟨w.heap.size, 0, none⟩ = some (.string x.player)) (by kernel_rfl) rfl ?_ (fun hHeld => ?_)
      ·(exact HT.out _ (by first | exact hbd | exact hHeld.1 | exact below_step hHeld.1 (by assumption)))
      refine take_to 0 38 (bQ 10 1) (v := ?_) o43_5_0 rfl o43_5_ns (by kernel_rfl) (by kernel_rfl) (fun _ _ _ h => h) (by rfl) ?y0t (by assumption) ?_
      case y0t => intro w h; (try dsimp only at h); go_simp; try with_reducible rfl
      simp only [sE0, sE1]; refine take_to 2 40 (bQ 10 5) (v := ?_) o43_5_2 rfl o43_5_ns (by kernel_rfl) (by kernel_rfl) (fun _ _ _ h => h) (by rfl) ?y2t (by assumption) ?_
      case y2t => intro w h; (try dsimp only at h); go_simp; try with_reducible rfl
      simp only [sE0, sE1]; refine take_to 3 41 (bQ 10 13) (v := ?_) o43_5_3 rfl o43_5_ns (by kernel_rfl) (by kernel_rfl) (fun _ _ _ h => h) (by rfl) ?y3t (by assumption) ?_
      case y3t => intro w h; (try dsimp only at h); go_simp; try with_reducible rfl
      simp only [sE0, sE1]; refine take_to 4 42 (bQ 10 29) (v := ?_) o43_5_4 rfl o43_5_ns (by kernel_rfl) (by kernel_rfl) (fun _ _ _ h => h) (by rfl) ?y4t (by assumption) ?_
      case y4t => intro w h; (try dsimp only at h); go_simp; try with_reducible rfl
      simp only [sE0, sE1]; refine run_to 1 (bQ 10 31) o43_5_1 (by kernel_rfl) (by kernel_rfl) (by rfl) (fun K hK => ?_)
      go_simp; refine (DM.out _ (below_step hb5 hHeld.1) _ _ (hC5.below hHeld.1)).mono ?_; rintro e w' ⟨rfl, hbh⟩; go_wp2_with fail
      refine hK.out _ _ ?_ (fun hHeld => ?_)
      ·(exact HT.out _ (by first | exact hbd | exact hHeld.1 | exact below_step hHeld.1 (by assumption)))
      clear hK K; try simp only [Act.put, sEt, sE0, sE1]
      refine run_to 5 (bQ 10 63) o43_5_5 (by kernel_rfl) (by kernel_rfl) (by rfl) (fun K hK => ?_)
      go_simp; refine (but_calls _ _).mono ?_; rintro e w' ⟨rfl, hbh, hcap⟩; go_wp2_with fail
      refine hK.out _ _ ?_ (fun hHeld => ?_)
      ·(exact HT.out _ (by first | exact hbd | exact hHeld.1 | exact below_step hHeld.1 (by assumption)))
      clear hK K; try simp only [Act.put, sEt, sE0, sE1]
      refine run_to 6 (bQ 10 127) o43_5_6 (by kernel_rfl) (by kernel_rfl) (by rfl) (fun K hK => ?_)
      go_simp; refine (DB.out _ (below_step hb5 hHeld.1) _ _ (hC5.below hHeld.1) _ hcap).mono ?_; rintro e w' ⟨rfl, hbh⟩; go_wp2_with fail
      refine hK.out _ _ ?_ (fun hHeld => ?_)
      ·(exact HT.out _ (by first | exact hbd | exact hHeld.1 | exact below_step hHeld.1 (by assumption)))
      clear hK K; try simp only [Act.put, sEt, sE0, sE1]
      refine take_to 7 45 (bQ 10 255) (v := ?_) o43_5_7 rfl o43_5_ns (by kernel_rfl) (by kernel_rfl) (fun _ _ _ h => h) (by rfl) ?y7t (by assumption) ?_
      case y7t => intro w h; (try dsimp only at h); go_simp; try with_reducible rfl
      simp only [sE0, sE1]; refine take_to 8 6 (bQ 10 511) (v := ?_) o43_5_8 rfl o43_5_ns (by kernel_rfl) (by kernel_rfl) (fun _ _ _ h => h) (by rfl) ?y8t (by assumption) ?_
      case y8t => intro w h; (try dsimp only at h); go_simp; try with_reducible rfl
      simp only [sE0, sE1]; refine take_to 9 7 (bQ 10 1023) (v := ?_) o43_5_9 rfl o43_5_ns (by kernel_rfl) (by kernel_rfl) (fun _ _ _ h => h) (by rfl) ?y9t (by assumption) ?_
      case y9t => intro w h; (try dsimp only at h); go_simp; try with_reducible rfl
      simp only [sE0, sE1]; refine wpAnyH_done (by kernel_rfl) ?_ _
      have hbe := below_step hb5 hHeld.1; clear hHeld HT hbd; go_wp2_with fail
      go_ret2
      exact ⟨by show Ending.returned (.tuple #[.int .i64 (IntKind.i64.wrap (M1 - M2)), .int .i64 0]) = _; rw [show IntKind.i64.wrap (M1 - M2) = M1 - M2 from wrap_subG hm1 hm2 hm3 hm4], hbe⟩
     ·have hZ := heap_alloc_new wc (.cells #[.slice none 0 0, .slice none 0 0] 142)
      have hbn := below_alloc wc (.cells #[.slice none 0 0, .slice none 0 0] 142); have hgz := hC.1.size; go_simp; obtain ⟨wn, hwn⟩ : ∃ wn, wc.alloc (.cells #[.slice none 0 0, .slice none 0 0] 142) = wn := ⟨_, rfl⟩
      rw [hwn] at hZ hbn ⊢
      clear hwn; replace hC := HS.out _ (below_step hC.1 hbn); try replace hN := news_below hbn hN
      try replace hown := own_belowG hown hbn
      try replace hownF := own_belowG hownF hbn
      try replace hCa := hCa.below hbn
      clear hbn; obtain ⟨wc, rfl⟩ : ∃ wc, wc = wn := ⟨_, rfl⟩
      refine hK.out _ _ (fun _ => ?_) ?_
      ·(exact hC)
      clear hK K; try simp only [Act.put, sEt, sE0, sE1]
      refine readyC (rs := [6]) (by kernel_rfl) (by simp) (each_cons (runC o43_4_6 (by rfl) (fun K hK => ?_)) each_nil)
      go_simp; have hFr := fresh_own hownF; refine (DP.out _ hC.1 _ _ (hFr.ass (by simp; omega))).mono ?_
      rintro e w2 ⟨cv, rfl, hCa, hbc⟩; obtain ⟨wc, rfl⟩ : ∃ wc, wc = w2 := ⟨_, rfl⟩
      clear hFr hownF; obtain ⟨ca, cc, rfl⟩ := ca_shape hCa; replace hC := HS.out _ (below_step hC.1 hbc); try replace hZ := cells_later hZ hbc
      go_wp2_with fail
      refine hK.out _ _ (fun _ => ?_) ?_
      ·(exact hC)
      clear hK K; try simp only [Act.put, sEt, sE0, sE1]
      refine readyC (rs := [8]) (by kernel_rfl) (by simp) (each_cons (runC o43_4_8 (by rfl) (fun K hK => ?_)) each_nil)
      have hfz := fun o => frozen_ofG hZ o
      have z0 := cell_at hZ 0 rfl; have z1 := cell_at hZ 1 rfl; go_simp; refine hK.out _ _ (fun h => absurd h (by decide)) ?_
      clear hK K; try simp only [sEt, sE0, sE1]
      refine doneC (by kernel_rfl) ?_ _
      obtain ⟨gz, w5, hgq, hw5, hZo, hZ5, hg5, hgl⟩ := pool_put hZ hgz (.slice pa np pc) (.slice ca CS.length cc); rw [hgq]; rw [← hw5]; have hC5 : Cas w5 0 (.slice ca CS.length cc) CS := Cas.mono (show Cas w5 _ _ CS from Rows.row hCa hg5 (fun r hr => by cases hr; exact ⟨_, _, _, hZo, by decide⟩)) (Nat.zero_le _)
      have hb5 : Below w.heap.size w w5 := below_gbG (below_step HwW.out hC.1) hg5 (by have := HwW.out.size; omega)
      have hx5 := heap_gbG hC.2.2.2.2 hg5 (by have := HWs.out; omega)
      have x0 := cell_at hx5 0 rfl; have z0 := cell_at hZ5 0 rfl; have z1 := cell_at hZ5 1 rfl; have HT := Lib.hid (show ∀ w', Below w5.heap.size w5 w' → (Below w5.heap.size w5 w' ∧ w'.cell? ⟨gz, 0, none⟩ = some (.slice pa np pc) ∧ w'.cell? ⟨gz, 1, none⟩ = some (.slice ca CS.length cc) ∧ w'.cell? ⟨w.heap.size, 0, none⟩ = some (.string x.player)) from fun w' hb => ⟨hb, below_cell hb z0, below_cell hb z1, below_cell hb x0⟩)
      have hbd := (Below.refl w5.heap.size w5).drew; clear x0 z0 z1 hx5 hZ5 hZo hZ hC hCa hw5 hgq hgz hfz HS hg5; go_upto_region 5 with fail
      show Code.wp _ (Code.region 5 o43_5 true) _ _ _
      refine region_start 10 (fun w' => Below w5.heap.size w5 w' ∧ w'.cell? ⟨gz, 0, none⟩ = some (.slice pa np pc) ∧ w'.cell? ⟨gz, 1, none⟩ = some (.slice ca CS.length cc) ∧ w'.cell? ⟨w.heap.size, 0, none⟩ = some (.string x.player)) (by kernel_rfl) rfl ?_ (fun hHeld => ?_)
      ·(exact HT.out _ (by first | exact hbd | exact hHeld.1 | exact below_step hHeld.1 (by assumption)))
      refine take_to 0 38 (bQ 10 1) (v := ?_) o43_5_0 rfl o43_5_ns (by kernel_rfl) (by kernel_rfl) (fun _ _ _ h => h) (by rfl) ?y0t (by assumption) ?_
      case y0t => intro w h; (try dsimp only at h); go_simp; try with_reducible rfl
      simp only [sE0, sE1]; refine take_to 2 40 (bQ 10 5) (v := ?_) o43_5_2 rfl o43_5_ns (by kernel_rfl) (by kernel_rfl) (fun _ _ _ h => h) (by rfl) ?y2t (by assumption) ?_
      case y2t => intro w h; (try dsimp only at h); go_simp; try with_reducible rfl
      simp only [sE0, sE1]; refine take_to 3 41 (bQ 10 13) (v := ?_) o43_5_3 rfl o43_5_ns (by kernel_rfl) (by kernel_rfl) (fun _ _ _ h => h) (by rfl) ?y3t (by assumption) ?_
      case y3t => intro w h; (try dsimp only at h); go_simp; try with_reducible rfl
      simp only [sE0, sE1]; refine take_to 4 42 (bQ 10 29) (v := ?_) o43_5_4 rfl o43_5_ns (by kernel_rfl) (by kernel_rfl) (fun _ _ _ h => h) (by rfl) ?y4t (by assumption) ?_
      case y4t => intro w h; (try dsimp only at h); go_simp; try with_reducible rfl
      simp only [sE0, sE1]; refine run_to 1 (bQ 10 31) o43_5_1 (by kernel_rfl) (by kernel_rfl) (by rfl) (fun K hK => ?_)
      go_simp; refine (DM.out _ (below_step hb5 hHeld.1) _ _ (hC5.below hHeld.1)).mono ?_; rintro e w' ⟨rfl, hbh⟩; go_wp2_with fail
      refine hK.out _ _ ?_ (fun hHeld => ?_)
      ·(exact HT.out _ (by first | exact hbd | exact hHeld.1 | exact below_step hHeld.1 (by assumption)))
      clear hK K; try simp only [Act.put, sEt, sE0, sE1]
      refine run_to 5 (bQ 10 63) o43_5_5 (by kernel_rfl) (by kernel_rfl) (by rfl) (fun K hK => ?_)
      go_simp; refine (but_calls _ _).mono ?_; rintro e w' ⟨rfl, hbh, hcap⟩; go_wp2_with fail
      refine hK.out _ _ ?_ (fun hHeld => ?_)
      ·(exact HT.out _ (by first | exact hbd | exact hHeld.1 | exact below_step hHeld.1 (by assumption)))
      clear hK K; try simp only [Act.put, sEt, sE0, sE1]
      refine run_to 6 (bQ 10 127) o43_5_6 (by kernel_rfl) (by kernel_rfl) (by rfl) (fun K hK => ?_)
      go_simp; refine (DB.out _ (below_step hb5 hHeld.1) _ _ (hC5.below hHeld.1) _ hcap).mono ?_; rintro e w' ⟨rfl, hbh⟩; go_wp2_with fail
      refine hK.out _ _ ?_ (fun hHeld => ?_)
      ·(exact HT.out _ (by first | exact hbd | exact hHeld.1 | exact below_step hHeld.1 (by assumption)))
      clear hK K; try simp only [Act.put, sEt, sE0, sE1]
      refine take_to 7 45 (bQ 10 255) (v := ?_) o43_5_7 rfl o43_5_ns (by kernel_rfl) (by kernel_rfl) (fun _ _ _ h => h) (by rfl) ?y7t (by assumption) ?_
      case y7t => intro w h; (try dsimp only at h); go_simp; try with_reducible rfl
      simp only [sE0, sE1]; refine take_to 8 6 (bQ 10 511) (v := ?_) o43_5_8 rfl o43_5_ns (by kernel_rfl) (by kernel_rfl) (fun _ _ _ h => h) (by rfl) ?y8t (by assumption) ?_
      case y8t => intro w h; (try dsimp only at h); go_simp; try with_reducible rfl
      simp only [sE0, sE1]; refine take_to 9 7 (bQ 10 1023) (v := ?_) o43_5_9 rfl o43_5_ns (by kernel_rfl) (by kernel_rfl) (fun _ _ _ h => h) (by rfl) ?y9t (by assumption) ?_
      case y9t => intro w h; (try dsimp only at h); go_simp; try with_reducible rfl
      simp only [sE0, sE1]; refine wpAnyH_done (by kernel_rfl) ?_ _
      have hbe := below_step hb5 hHeld.1; clear hHeld HT hbd; go_wp2_with fail
      go_ret2
      exact ⟨by show Ending.returned (.tuple #[.int .i64 (IntKind.i64.wrap (M1 - M2)), .int .i64 0]) = _; rw [show IntKind.i64.wrap (M1 - M2) = M1 - M2 from wrap_subG hm1 hm2 hm3 hm4], hbe⟩
    ·have hZ := heap_alloc_new wc (.cells #[.slice none 0 0, .slice none 0 0] 142)
     have hbn := below_alloc wc (.cells #[.slice none 0 0, .slice none 0 0] 142); have hgz := hC.1.size; go_simp; obtain ⟨wn, hwn⟩ : ∃ wn, wc.alloc (.cells #[.slice none 0 0, .slice none 0 0] 142) = wn := ⟨_, rfl⟩
     rw [hwn] at hZ hbn ⊢
     clear hwn; replace hC := HS.out _ (below_step hC.1 hbn); try replace hN := news_below hbn hN
     try replace hown := own_belowG hown hbn
     try replace hownF := own_belowG hownF hbn
     try replace hCa := hCa.below hbn
     clear hbn; obtain ⟨wc, rfl⟩ : ∃ wc, wc = wn := ⟨_, rfl⟩
     refine hK.out _ _ (fun _ => ?_) ?_
     ·(exact hC)
     clear hK K; try simp only [Act.put, sEt, sE0, sE1]
     refine readyC (rs := [4]) (by kernel_rfl) (by simp) (each_cons (runC o43_4_4 (by rfl) (fun K hK => ?_)) each_nil)
     refine wp_append_at _ (.tmp 32) (.tmp 34) 52 rfl W.heap.size 78 i0 (.agg #[.string ⟨#[]⟩, .string ⟨#[]⟩, .int .i64 0]) 3 40 Tryz.underlying52 hi hz0 hz1 hz2 rfl (by decide) v1 xs.length _ rfl hown _ 1 1 [.string x.player, .string x.pos, .int .i64 x.value] rfl rfl hN (by simp [Value.oneCell']) (by unfold maxLen; omega) (by omega) hC.1.size ?_
     intro v2 w2 hown2 hgrow; have hCb := HS.out _ (hC.1.grown hgrow hC.1.size fun r hr => (own_block hown r hr).1)
     try replace hZ := (hgrow.block _ (lt_of_heap hZ) (fun e => by obtain ⟨_, cur, hc⟩ := own_block hown _ e.symm; rw [hZ] at hc; simp at hc)).trans hZ
     have hownF : OwnAs w2 W.heap.size v2 (xs ++ [x]) := by
      unfold OwnAs; have e : ((xs ++ [x]).map asRow).flatten = (xs.map asRow).flatten ++ [.string x.player, .string x.pos, .int .i64 x.value] := by simp [asRow]
      rw [e, List.length_append]; exact hown2
     clear hgrow hown hC hN hown2; have hC := hCb; clear hCb; obtain ⟨wc, rfl⟩ : ∃ wc, wc = w2 := ⟨_, rfl⟩
     refine hK.out _ _ (fun h => absurd h (by decide)) ?_
     clear hK K; try simp only [Act.put, sEt, sE0, sE1]
     refine readyC (rs := [6]) (by kernel_rfl) (by simp) (each_cons (runC o43_4_6 (by rfl) (fun K hK => ?_)) each_nil)
     go_simp; have hFr := fresh_own hownF; refine (DP.out _ hC.1 _ _ (hFr.ass (by simp; omega))).mono ?_
     rintro e w2 ⟨cv, rfl, hCa, hbc⟩; obtain ⟨wc, rfl⟩ : ∃ wc, wc = w2 := ⟨_, rfl⟩
     clear hFr hownF; obtain ⟨ca, cc, rfl⟩ := ca_shape hCa; replace hC := HS.out _ (below_step hC.1 hbc); try replace hZ := cells_later hZ hbc
     go_wp2_with fail
     refine hK.out _ _ (fun _ => ?_) ?_
     ·(exact hC)
     clear hK K; try simp only [Act.put, sEt, sE0, sE1]
     refine readyC (rs := [8]) (by kernel_rfl) (by simp) (each_cons (runC o43_4_8 (by rfl) (fun K hK => ?_)) each_nil)
     have hfz := fun o => frozen_ofG hZ o
     have z0 := cell_at hZ 0 rfl; have z1 := cell_at hZ 1 rfl; go_simp; refine hK.out _ _ (fun h => absurd h (by decide)) ?_
     clear hK K; try simp only [sEt, sE0, sE1]
     refine doneC (by kernel_rfl) ?_ _
     obtain ⟨gz, w5, hgq, hw5, hZo, hZ5, hg5, hgl⟩ := pool_put hZ hgz (.slice pa np pc) (.slice ca CS.length cc); rw [hgq]; rw [← hw5]; have hC5 : Cas w5 0 (.slice ca CS.length cc) CS := Cas.mono (show Cas w5 _ _ CS from Rows.row hCa hg5 (fun r hr => by cases hr; exact ⟨_, _, _, hZo, by decide⟩)) (Nat.zero_le _)
     have hb5 : Below w.heap.size w w5 := below_gbG (below_step HwW.out hC.1) hg5 (by have := HwW.out.size; omega)
     have hx5 := heap_gbG hC.2.2.2.2 hg5 (by have := HWs.out; omega)
     have x0 := cell_at hx5 0 rfl; have z0 := cell_at hZ5 0 rfl; have z1 := cell_at hZ5 1 rfl; have HT := Lib.hid (show ∀ w', Below w5.heap.size w5 w' → (Below w5.heap.size w5 w' ∧ w'.cell? ⟨gz, 0, none⟩ = some (.slice pa np pc) ∧ w'.cell? ⟨gz, 1, none⟩ = some (.slice ca CS.length cc) ∧ w'.cell? ⟨w.heap.size, 0, none⟩ = some (.string x.player)) from fun w' hb => ⟨hb, below_cell hb z0, below_cell hb z1, below_cell hb x0⟩)
     have hbd := (Below.refl w5.heap.size w5).drew; clear x0 z0 z1 hx5 hZ5 hZo hZ hC hCa hw5 hgq hgz hfz HS hg5; go_upto_region 5 with fail
     show Code.wp _ (Code.region 5 o43_5 true) _ _ _
     refine region_start 10 (fun w' => Below w5.heap.size w5 w' ∧ w'.cell? ⟨gz, 0, none⟩ = some (.slice pa np pc) ∧ w'.cell? ⟨gz, 1, none⟩ = some (.slice ca CS.length cc) ∧ w'.cell? ⟨w.heap.size, 0, none⟩ = some (.string x.player)) (by kernel_rfl) rfl ?_ (fun hHeld => ?_)
     ·(exact HT.out _ (by first | exact hbd | exact hHeld.1 | exact below_step hHeld.1 (by assumption)))
     refine take_to 0 38 (bQ 10 1) (v := ?_) o43_5_0 rfl o43_5_ns (by kernel_rfl) (by kernel_rfl) (fun _ _ _ h => h) (by rfl) ?y0t (by assumption) ?_
     case y0t => intro w h; (try dsimp only at h); go_simp; try with_reducible rfl
     simp only [sE0, sE1]; refine take_to 2 40 (bQ 10 5) (v := ?_) o43_5_2 rfl o43_5_ns (by kernel_rfl) (by kernel_rfl) (fun _ _ _ h => h) (by rfl) ?y2t (by assumption) ?_
     case y2t => intro w h; (try dsimp only at h); go_simp; try with_reducible rfl
     simp only [sE0, sE1]; refine take_to 3 41 (bQ 10 13) (v := ?_) o43_5_3 rfl o43_5_ns (by kernel_rfl) (by kernel_rfl) (fun _ _ _ h => h) (by rfl) ?y3t (by assumption) ?_
     case y3t => intro w h; (try dsimp only at h); go_simp; try with_reducible rfl
     simp only [sE0, sE1]; refine take_to 4 42 (bQ 10 29) (v := ?_) o43_5_4 rfl o43_5_ns (by kernel_rfl) (by kernel_rfl) (fun _ _ _ h => h) (by rfl) ?y4t (by assumption) ?_
     case y4t => intro w h; (try dsimp only at h); go_simp; try with_reducible rfl
     simp only [sE0, sE1]; refine run_to 1 (bQ 10 31) o43_5_1 (by kernel_rfl) (by kernel_rfl) (by rfl) (fun K hK => ?_)
     go_simp; refine (DM.out _ (below_step hb5 hHeld.1) _ _ (hC5.below hHeld.1)).mono ?_; rintro e w' ⟨rfl, hbh⟩; go_wp2_with fail
     refine hK.out _ _ ?_ (fun hHeld => ?_)
     ·(exact HT.out _ (by first | exact hbd | exact hHeld.1 | exact below_step hHeld.1 (by assumption)))
     clear hK K; try simp only [Act.put, sEt, sE0, sE1]
     refine run_to 5 (bQ 10 63) o43_5_5 (by kernel_rfl) (by kernel_rfl) (by rfl) (fun K hK => ?_)
     go_simp; refine (but_calls _ _).mono ?_; rintro e w' ⟨rfl, hbh, hcap⟩; go_wp2_with fail
     refine hK.out _ _ ?_ (fun hHeld => ?_)
     ·(exact HT.out _ (by first | exact hbd | exact hHeld.1 | exact below_step hHeld.1 (by assumption)))
     clear hK K; try simp only [Act.put, sEt, sE0, sE1]
     refine run_to 6 (bQ 10 127) o43_5_6 (by kernel_rfl) (by kernel_rfl) (by rfl) (fun K hK => ?_)
     go_simp; refine (DB.out _ (below_step hb5 hHeld.1) _ _ (hC5.below hHeld.1) _ hcap).mono ?_; rintro e w' ⟨rfl, hbh⟩; go_wp2_with fail
     refine hK.out _ _ ?_ (fun hHeld => ?_)
     ·(exact HT.out _ (by first | exact hbd | exact hHeld.1 | exact below_step hHeld.1 (by assumption)))
     clear hK K; try simp only [Act.put, sEt, sE0, sE1]
     refine take_to 7 45 (bQ 10 255) (v := ?_) o43_5_7 rfl o43_5_ns (by kernel_rfl) (by kernel_rfl) (fun _ _ _ h => h) (by rfl) ?y7t (by assumption) ?_
     case y7t => intro w h; (try dsimp only at h); go_simp; try with_reducible rfl
     simp only [sE0, sE1]; refine take_to 8 6 (bQ 10 511) (v := ?_) o43_5_8 rfl o43_5_ns (by kernel_rfl) (by kernel_rfl) (fun _ _ _ h => h) (by rfl) ?y8t (by assumption) ?_
     case y8t => intro w h; (try dsimp only at h); go_simp; try with_reducible rfl
     simp only [sE0, sE1]; refine take_to 9 7 (bQ 10 1023) (v := ?_) o43_5_9 rfl o43_5_ns (by kernel_rfl) (by kernel_rfl) (fun _ _ _ h => h) (by rfl) ?y9t (by assumption) ?_
     case y9t => intro w h; (try dsimp only at h); go_simp; try with_reducible rfl
     simp only [sE0, sE1]; refine wpAnyH_done (by kernel_rfl) ?_ _
     have hbe := below_step hb5 hHeld.1; clear hHeld HT hbd; go_wp2_with fail
     go_ret2
     exact ⟨by show Ending.returned (.tuple #[.int .i64 (IntKind.i64.wrap (M1 - M2)), .int .i64 0]) = _; rw [show IntKind.i64.wrap (M1 - M2) = M1 - M2 from wrap_subG hm1 hm2 hm3 hm4], hbe⟩
   ·have hZ := heap_alloc_new wc (.cells #[.slice none 0 0, .slice none 0 0] 142)
    have hbn := below_alloc wc (.cells #[.slice none 0 0, .slice none 0 0] 142); have hgz := hC.1.size; go_simp; obtain ⟨wn, hwn⟩ : ∃ wn, wc.alloc (.cells #[.slice none 0 0, .slice none 0 0] 142) = wn := ⟨_, rfl⟩
    rw [hwn] at hZ hbn ⊢
    clear hwn; replace hC := HS.out _ (below_step hC.1 hbn); try replace hN := news_below hbn hN
    try replace hown := own_belowG hown hbn
    try replace hownF := own_belowG hownF hbn
    try replace hCa := hCa.below hbn
    clear hbn; obtain ⟨wc, rfl⟩ : ∃ wc, wc = wn := ⟨_, rfl⟩
    refine hK.out _ _ (fun _ => ?_) ?_
    ·(exact hC)
    clear hK K; try simp only [Act.put, sEt, sE0, sE1]
    refine readyC (rs := [1]) (by kernel_rfl) (by simp) (each_cons (runC o43_4_1 (by rfl) (fun K hK => ?_)) each_nil)
    go_simp; refine (C.out _ hC.1).mono ?_; rintro e w2 ⟨v1, hown, rfl, hbc⟩; replace hown := World.ownsRow.mono hown hC.1.size; obtain ⟨wc, rfl⟩ : ∃ wc, wc = w2 := ⟨_, rfl⟩
    replace hC := HS.out _ (below_step hC.1 hbc); try replace hZ := cells_later hZ hbc
    try replace hN := news_below hbc hN
    try replace hown2 := own_belowG hown2 hbc
    try replace hCa := hCa.below hbc
    go_wp2_with fail
    refine hK.out _ _ (fun _ => ?_) ?_
    ·(exact hC)
    clear hK K; try simp only [Act.put, sEt, sE0, sE1]
    refine readyC (rs := [4]) (by kernel_rfl) (by simp) (each_cons (runC o43_4_4 (by rfl) (fun K hK => ?_)) each_nil)
    refine wp_append_at _ (.tmp 32) (.tmp 34) 52 rfl W.heap.size 78 i0 (.agg #[.string ⟨#[]⟩, .string ⟨#[]⟩, .int .i64 0]) 3 40 Tryz.underlying52 hi hz0 hz1 hz2 rfl (by decide) v1 xs.length _ rfl hown _ 1 1 [.string x.player, .string x.pos, .int .i64 x.value] rfl rfl hN (by simp [Value.oneCell']) (by unfold maxLen; omega) (by omega) hC.1.size ?_
    intro v2 w2 hown2 hgrow; have hCb := HS.out _ (hC.1.grown hgrow hC.1.size fun r hr => (own_block hown r hr).1)
    try replace hZ := (hgrow.block _ (lt_of_heap hZ) (fun e => by obtain ⟨_, cur, hc⟩ := own_block hown _ e.symm; rw [hZ] at hc; simp at hc)).trans hZ
    have hownF : OwnAs w2 W.heap.size v2 (xs ++ [x]) := by
     unfold OwnAs; have e : ((xs ++ [x]).map asRow).flatten = (xs.map asRow).flatten ++ [.string x.player, .string x.pos, .int .i64 x.value] := by simp [asRow]
     rw [e, List.length_append]; exact hown2
    clear hgrow hown hC hN hown2; have hC := hCb; clear hCb; obtain ⟨wc, rfl⟩ : ∃ wc, wc = w2 := ⟨_, rfl⟩
    refine hK.out _ _ (fun h => absurd h (by decide)) ?_
    clear hK K; try simp only [Act.put, sEt, sE0, sE1]
    refine readyC (rs := [6]) (by kernel_rfl) (by simp) (each_cons (runC o43_4_6 (by rfl) (fun K hK => ?_)) each_nil)
    go_simp; have hFr := fresh_own hownF; refine (DP.out _ hC.1 _ _ (hFr.ass (by simp; omega))).mono ?_
    rintro e w2 ⟨cv, rfl, hCa, hbc⟩; obtain ⟨wc, rfl⟩ : ∃ wc, wc = w2 := ⟨_, rfl⟩
    clear hFr hownF; obtain ⟨ca, cc, rfl⟩ := ca_shape hCa; replace hC := HS.out _ (below_step hC.1 hbc); try replace hZ := cells_later hZ hbc
    go_wp2_with fail
    refine hK.out _ _ (fun _ => ?_) ?_
    ·(exact hC)
    clear hK K; try simp only [Act.put, sEt, sE0, sE1]
    refine readyC (rs := [8]) (by kernel_rfl) (by simp) (each_cons (runC o43_4_8 (by rfl) (fun K hK => ?_)) each_nil)
    have hfz := fun o => frozen_ofG hZ o
    have z0 := cell_at hZ 0 rfl; have z1 := cell_at hZ 1 rfl; go_simp; refine hK.out _ _ (fun h => absurd h (by decide)) ?_
    clear hK K; try simp only [sEt, sE0, sE1]
    refine doneC (by kernel_rfl) ?_ _
    obtain ⟨gz, w5, hgq, hw5, hZo, hZ5, hg5, hgl⟩ := pool_put hZ hgz (.slice pa np pc) (.slice ca CS.length cc); rw [hgq]; rw [← hw5]; have hC5 : Cas w5 0 (.slice ca CS.length cc) CS := Cas.mono (show Cas w5 _ _ CS from Rows.row hCa hg5 (fun r hr => by cases hr; exact ⟨_, _, _, hZo, by decide⟩)) (Nat.zero_le _)
    have hb5 : Below w.heap.size w w5 := below_gbG (below_step HwW.out hC.1) hg5 (by have := HwW.out.size; omega)
    have hx5 := heap_gbG hC.2.2.2.2 hg5 (by have := HWs.out; omega)
    have x0 := cell_at hx5 0 rfl; have z0 := cell_at hZ5 0 rfl; have z1 := cell_at hZ5 1 rfl; have HT := Lib.hid (show ∀ w', Below w5.heap.size w5 w' → (Below w5.heap.size w5 w' ∧ w'.cell? ⟨gz, 0, none⟩ = some (.slice pa np pc) ∧ w'.cell? ⟨gz, 1, none⟩ = some (.slice ca CS.length cc) ∧ w'.cell? ⟨w.heap.size, 0, none⟩ = some (.string x.player)) from fun w' hb => ⟨hb, below_cell hb z0, below_cell hb z1, below_cell hb x0⟩)
    have hbd := (Below.refl w5.heap.size w5).drew; clear x0 z0 z1 hx5 hZ5 hZo hZ hC hCa hw5 hgq hgz hfz HS hg5; go_upto_region 5 with fail
    show Code.wp _ (Code.region 5 o43_5 true) _ _ _
    refine region_start 10 (fun w' => Below w5.heap.size w5 w' ∧ w'.cell? ⟨gz, 0, none⟩ = some (.slice pa np pc) ∧ w'.cell? ⟨gz, 1, none⟩ = some (.slice ca CS.length cc) ∧ w'.cell? ⟨w.heap.size, 0, none⟩ = some (.string x.player)) (by kernel_rfl) rfl ?_ (fun hHeld => ?_)
    ·(exact HT.out _ (by first | exact hbd | exact hHeld.1 | exact below_step hHeld.1 (by assumption)))
    refine take_to 0 38 (bQ 10 1) (v := ?_) o43_5_0 rfl o43_5_ns (by kernel_rfl) (by kernel_rfl) (fun _ _ _ h => h) (by rfl) ?y0t (by assumption) ?_
    case y0t => intro w h; (try dsimp only at h); go_simp; try with_reducible rfl
    simp only [sE0, sE1]; refine take_to 2 40 (bQ 10 5) (v := ?_) o43_5_2 rfl o43_5_ns (by kernel_rfl) (by kernel_rfl) (fun _ _ _ h => h) (by rfl) ?y2t (by assumption) ?_
    case y2t => intro w h; (try dsimp only at h); go_simp; try with_reducible rfl
    simp only [sE0, sE1]; refine take_to 3 41 (bQ 10 13) (v := ?_) o43_5_3 rfl o43_5_ns (by kernel_rfl) (by kernel_rfl) (fun _ _ _ h => h) (by rfl) ?y3t (by assumption) ?_
    case y3t => intro w h; (try dsimp only at h); go_simp; try with_reducible rfl
    simp only [sE0, sE1]; refine take_to 4 42 (bQ 10 29) (v := ?_) o43_5_4 rfl o43_5_ns (by kernel_rfl) (by kernel_rfl) (fun _ _ _ h => h) (by rfl) ?y4t (by assumption) ?_
    case y4t => intro w h; (try dsimp only at h); go_simp; try with_reducible rfl
    simp only [sE0, sE1]; refine run_to 1 (bQ 10 31) o43_5_1 (by kernel_rfl) (by kernel_rfl) (by rfl) (fun K hK => ?_)
    go_simp; refine (DM.out _ (below_step hb5 hHeld.1) _ _ (hC5.below hHeld.1)).mono ?_; rintro e w' ⟨rfl, hbh⟩; go_wp2_with fail
    refine hK.out _ _ ?_ (fun hHeld => ?_)
    ·(exact HT.out _ (by first | exact hbd | exact hHeld.1 | exact below_step hHeld.1 (by assumption)))
    clear hK K; try simp only [Act.put, sEt, sE0, sE1]
    refine run_to 5 (bQ 10 63) o43_5_5 (by kernel_rfl) (by kernel_rfl) (by rfl) (fun K hK => ?_)
    go_simp; refine (but_calls _ _).mono ?_; rintro e w' ⟨rfl, hbh, hcap⟩; go_wp2_with fail
    refine hK.out _ _ ?_ (fun hHeld => ?_)
    ·(exact HT.out _ (by first | exact hbd | exact hHeld.1 | exact below_step hHeld.1 (by assumption)))
    clear hK K; try simp only [Act.put, sEt, sE0, sE1]
    refine run_to 6 (bQ 10 127) o43_5_6 (by kernel_rfl) (by kernel_rfl) (by rfl) (fun K hK => ?_)
    go_simp; refine (DB.out _ (below_step hb5 hHeld.1) _ _ (hC5.below hHeld.1) _ hcap).mono ?_; rintro e w' ⟨rfl, hbh⟩; go_wp2_with fail
    refine hK.out _ _ ?_ (fun hHeld => ?_)
    ·(exact HT.out _ (by first | exact hbd | exact hHeld.1 | exact below_step hHeld.1 (by assumption)))
    clear hK K; try simp only [Act.put, sEt, sE0, sE1]
    refine take_to 7 45 (bQ 10 255) (v := ?_) o43_5_7 rfl o43_5_ns (by kernel_rfl) (by kernel_rfl) (fun _ _ _ h => h) (by rfl) ?y7t (by assumption) ?_
    case y7t => intro w h; (try dsimp only at h); go_simp; try with_reducible rfl
    simp only [sE0, sE1]; refine take_to 8 6 (bQ 10 511) (v := ?_) o43_5_8 rfl o43_5_ns (by kernel_rfl) (by kernel_rfl) (fun _ _ _ h => h) (by rfl) ?y8t (by assumption) ?_
    case y8t => intro w h; (try dsimp only at h); go_simp; try with_reducible rfl
    simp only [sE0, sE1]; refine take_to 9 7 (bQ 10 1023) (v := ?_) o43_5_9 rfl o43_5_ns (by kernel_rfl) (by kernel_rfl) (fun _ _ _ h => h) (by rfl) ?y9t (by assumption) ?_
    case y9t => intro w h; (try dsimp only at h); go_simp; try with_reducible rfl
    simp only [sE0, sE1]; refine wpAnyH_done (by kernel_rfl) ?_ _
    have hbe := below_step hb5 hHeld.1; clear hHeld HT hbd; go_wp2_with fail
    go_ret2
    exact ⟨by show Ending.returned (.tuple #[.int .i64 (IntKind.i64.wrap (M1 - M2)), .int .i64 0]) = _; rw [show IntKind.i64.wrap (M1 - M2) = M1 - M2 from wrap_subG hm1 hm2 hm3 hm4], hbe⟩
  ·have hZ := heap_alloc_new wc (.cells #[.slice none 0 0, .slice none 0 0] 142)
   have hbn := below_alloc wc (.cells #[.slice none 0 0, .slice none 0 0] 142); have hgz := hC.1.size; go_simp; obtain ⟨wn, hwn⟩ : ∃ wn, wc.alloc (.cells #[.slice none 0 0, .slice none 0 0] 142) = wn := ⟨_, rfl⟩
   rw [hwn] at hZ hbn ⊢
   clear hwn; replace hC := HS.out _ (below_step hC.1 hbn); try replace hN := news_below hbn hN
   try replace hown := own_belowG hown hbn
   try replace hownF := own_belowG hownF hbn
   try replace hCa := hCa.below hbn
   clear hbn; obtain ⟨wc, rfl⟩ : ∃ wc, wc = wn := ⟨_, rfl⟩
   refine hK.out _ _ (fun _ => ?_) ?_
   ·(exact hC)
   clear hK K; try simp only [Act.put, sEt, sE0, sE1]
   refine readyC (rs := [1, 3]) (by kernel_rfl) (by simp) (each_cons (runC o43_4_1 (by rfl) (fun K hK => ?_)) (each_cons (runC o43_4_3 (by rfl) (fun K hK => ?_)) each_nil))
   ·go_simp
    refine (C.out _ hC.1).mono ?_; rintro e w2 ⟨v1, hown, rfl, hbc⟩; replace hown := World.ownsRow.mono hown hC.1.size; obtain ⟨wc, rfl⟩ : ∃ wc, wc = w2 := ⟨_, rfl⟩
    replace hC := HS.out _ (below_step hC.1 hbc); try replace hZ := cells_later hZ hbc
    try replace hN := news_below hbc hN
    try replace hown2 := own_belowG hown2 hbc
    try replace hCa := hCa.below hbc
    go_wp2_with fail
    refine hK.out _ _ (fun _ => ?_) ?_
    ·(exact hC)
    clear hK K; try simp only [Act.put, sEt, sE0, sE1]
    refine readyC (rs := [3]) (by kernel_rfl) (by simp) (each_cons (runC o43_4_3 (by rfl) (fun K hK => ?_)) each_nil)
    have hN := cells_newG wc [.string x.player, .string x.pos, .int .i64 x.value] 78; have hbn := below_alloc wc (.cells #[.string x.player, .string x.pos, .int .i64 x.value] 78); go_simp; obtain ⟨wn, hwn⟩ : ∃ wn, wc.alloc (.cells #[.string x.player, .string x.pos, .int .i64 x.value] 78) = wn := ⟨_, rfl⟩
    rw [hwn] at hN hbn ⊢
    clear hwn; replace hC := HS.out _ (below_step hC.1 hbn); try replace hZ := cells_later hZ hbn
    try replace hown := own_belowG hown hbn
    try replace hownF := own_belowG hownF hbn
    try replace hCa := hCa.below hbn
    clear hbn; obtain ⟨wc, rfl⟩ : ∃ wc, wc = wn := ⟨_, rfl⟩
    refine hK.out _ _ (fun _ => ?_) ?_
    ·(exact hC)
    clear hK K; try simp only [Act.put, sEt, sE0, sE1]
    refine readyC (rs := [4]) (by kernel_rfl) (by simp) (each_cons (runC o43_4_4 (by rfl) (fun K hK => ?_)) each_nil)
    refine wp_append_at _ (.tmp 32) (.tmp 34) 52 rfl W.heap.size 78 i0 (.agg #[.string ⟨#[]⟩, .string ⟨#[]⟩, .int .i64 0]) 3 40 Tryz.underlying52 hi hz0 hz1 hz2 rfl (by decide) v1 xs.length _ rfl hown _ 1 1 [.string x.player, .string x.pos, .int .i64 x.value] rfl rfl hN (by simp [Value.oneCell']) (by unfold maxLen; omega) (by omega) hC.1.size ?_
    intro v2 w2 hown2 hgrow; have hCb := HS.out _ (hC.1.grown hgrow hC.1.size fun r hr => (own_block hown r hr).1)
    try replace hZ := (hgrow.block _ (lt_of_heap hZ) (fun e => by obtain ⟨_, cur, hc⟩ := own_block hown _ e.symm; rw [hZ] at hc; simp at hc)).trans hZ
    have hownF : OwnAs w2 W.heap.size v2 (xs ++ [x]) := by
     unfold OwnAs; have e : ((xs ++ [x]).map asRow).flatten = (xs.map asRow).flatten ++ [.string x.player, .string x.pos, .int .i64 x.value] := by simp [asRow]
     rw [e, List.length_append]; exact hown2
    clear hgrow hown hC hN hown2; have hC := hCb; clear hCb; obtain ⟨wc, rfl⟩ : ∃ wc, wc = w2 := ⟨_, rfl⟩
    refine hK.out _ _ (fun h => absurd h (by decide)) ?_
    clear hK K; try simp only [Act.put, sEt, sE0, sE1]
    refine readyC (rs := [6]) (by kernel_rfl) (by simp) (each_cons (runC o43_4_6 (by rfl) (fun K hK => ?_)) each_nil)
    go_simp; have hFr := fresh_own hownF; refine (DP.out _ hC.1 _ _ (hFr.ass (by simp; omega))).mono ?_
    rintro e w2 ⟨cv, rfl, hCa, hbc⟩; obtain ⟨wc, rfl⟩ : ∃ wc, wc = w2 := ⟨_, rfl⟩
    clear hFr hownF; obtain ⟨ca, cc, rfl⟩ := ca_shape hCa; replace hC := HS.out _ (below_step hC.1 hbc); try replace hZ := cells_later hZ hbc
    go_wp2_with fail
    refine hK.out _ _ (fun _ => ?_) ?_
    ·(exact hC)
    clear hK K; try simp only [Act.put, sEt, sE0, sE1]
    refine readyC (rs := [8]) (by kernel_rfl) (by simp) (each_cons (runC o43_4_8 (by rfl) (fun K hK => ?_)) each_nil)
    have hfz := fun o => frozen_ofG hZ o
    have z0 := cell_at hZ 0 rfl; have z1 := cell_at hZ 1 rfl; go_simp; refine hK.out _ _ (fun h => absurd h (by decide)) ?_
    clear hK K; try simp only [sEt, sE0, sE1]
    refine doneC (by kernel_rfl) ?_ _
    obtain ⟨gz, w5, hgq, hw5, hZo, hZ5, hg5, hgl⟩ := pool_put hZ hgz (.slice pa np pc) (.slice ca CS.length cc); rw [hgq]; rw [← hw5]; have hC5 : Cas w5 0 (.slice ca CS.length cc) CS := Cas.mono (show Cas w5 _ _ CS from Rows.row hCa hg5 (fun r hr => by cases hr; exact ⟨_, _, _, hZo, by decide⟩)) (Nat.zero_le _)
    have hb5 : Below w.heap.size w w5 := below_gbG (below_step HwW.out hC.1) hg5 (by have := HwW.out.size; omega)
    have hx5 := heap_gbG hC.2.2.2.2 hg5 (by have := HWs.out; omega)
    have x0 := cell_at hx5 0 rfl; have z0 := cell_at hZ5 0 rfl; have z1 := cell_at hZ5 1 rfl; have HT := Lib.hid (show ∀ w', Below w5.heap.size w5 w' → (Below w5.heap.size w5 w' ∧ w'.cell? ⟨gz, 0, none⟩ = some (.slice pa np pc) ∧ w'.cell? ⟨gz, 1, none⟩ = some (.slice ca CS.length cc) ∧ w'.cell? ⟨w.heap.size, 0, none⟩ = some (.string x.player)) from fun w' hb => ⟨hb, below_cell hb z0, below_cell hb z1, below_cell hb x0⟩)
    have hbd := (Below.refl w5.heap.size w5).drew; clear x0 z0 z1 hx5 hZ5 hZo hZ hC hCa hw5 hgq hgz hfz HS hg5; go_upto_region 5 with fail
    show Code.wp _ (Code.region 5 o43_5 true) _ _ _
    refine region_start 10 (fun w' => Below w5.heap.size w5 w' ∧ w'.cell? ⟨gz, 0, none⟩ = some (.slice pa np pc) ∧ w'.cell? ⟨gz, 1, none⟩ = some (.slice ca CS.length cc) ∧ w'.cell? ⟨w.heap.size, 0, none⟩ = some (.string x.player)) (by kernel_rfl) rfl ?_ (fun hHeld => ?_)
    ·(exact HT.out _ (by first | exact hbd | exact hHeld.1 | exact below_step hHeld.1 (by assumption)))
    refine take_to 0 38 (bQ 10 1) (v := ?_) o43_5_0 rfl o43_5_ns (by kernel_rfl) (by kernel_rfl) (fun _ _ _ h => h) (by rfl) ?y0t (by assumption) ?_
    case y0t => intro w h; (try dsimp only at h); go_simp; try with_reducible rfl
    simp only [sE0, sE1]; refine take_to 2 40 (bQ 10 5) (v := ?_) o43_5_2 rfl o43_5_ns (by kernel_rfl) (by kernel_rfl) (fun _ _ _ h => h) (by rfl) ?y2t (by assumption) ?_
    case y2t => intro w h; (try dsimp only at h); go_simp; try with_reducible rfl
    simp only [sE0, sE1]; refine take_to 3 41 (bQ 10 13) (v := ?_) o43_5_3 rfl o43_5_ns (by kernel_rfl) (by kernel_rfl) (fun _ _ _ h => h) (by rfl) ?y3t (by assumption) ?_
    case y3t => intro w h; (try dsimp only at h); go_simp; try with_reducible rfl
    simp only [sE0, sE1]; refine take_to 4 42 (bQ 10 29) (v := ?_) o43_5_4 rfl o43_5_ns (by kernel_rfl) (by kernel_rfl) (fun _ _ _ h => h) (by rfl) ?y4t (by assumption) ?_
    case y4t => intro w h; (try dsimp only at h); go_simp; try with_reducible rfl
    simp only [sE0, sE1]; refine run_to 1 (bQ 10 31) o43_5_1 (by kernel_rfl) (by kernel_rfl) (by rfl) (fun K hK => ?_)
    go_simp; refine (DM.out _ (below_step hb5 hHeld.1) _ _ (hC5.below hHeld.1)).mono ?_; rintro e w' ⟨rfl, hbh⟩; go_wp2_with fail
    refine hK.out _ _ ?_ (fun hHeld => ?_)
    ·(exact HT.out _ (by first | exact hbd | exact hHeld.1 | exact below_step hHeld.1 (by assumption)))
    clear hK K; try simp only [Act.put, sEt, sE0, sE1]
    refine run_to 5 (bQ 10 63) o43_5_5 (by kernel_rfl) (by kernel_rfl) (by rfl) (fun K hK => ?_)
    go_simp; refine (but_calls _ _).mono ?_; rintro e w' ⟨rfl, hbh, hcap⟩; go_wp2_with fail
    refine hK.out _ _ ?_ (fun hHeld => ?_)
    ·(exact HT.out _ (by first | exact hbd | exact hHeld.1 | exact below_step hHeld.1 (by assumption)))
    clear hK K; try simp only [Act.put, sEt, sE0, sE1]
    refine run_to 6 (bQ 10 127) o43_5_6 (by kernel_rfl) (by kernel_rfl) (by rfl) (fun K hK => ?_)
    go_simp; refine (DB.out _ (below_step hb5 hHeld.1) _ _ (hC5.below hHeld.1) _ hcap).mono ?_; rintro e w' ⟨rfl, hbh⟩; go_wp2_with fail
    refine hK.out _ _ ?_ (fun hHeld => ?_)
    ·(exact HT.out _ (by first | exact hbd | exact hHeld.1 | exact below_step hHeld.1 (by assumption)))
    clear hK K; try simp only [Act.put, sEt, sE0, sE1]
    refine take_to 7 45 (bQ 10 255) (v := ?_) o43_5_7 rfl o43_5_ns (by kernel_rfl) (by kernel_rfl) (fun _ _ _ h => h) (by rfl) ?y7t (by assumption) ?_
    case y7t => intro w h; (try dsimp only at h); go_simp; try with_reducible rfl
    simp only [sE0, sE1]; refine take_to 8 6 (bQ 10 511) (v := ?_) o43_5_8 rfl o43_5_ns (by kernel_rfl) (by kernel_rfl) (fun _ _ _ h => h) (by rfl) ?y8t (by assumption) ?_
    case y8t => intro w h; (try dsimp only at h); go_simp; try with_reducible rfl
    simp only [sE0, sE1]; refine take_to 9 7 (bQ 10 1023) (v := ?_) o43_5_9 rfl o43_5_ns (by kernel_rfl) (by kernel_rfl) (fun _ _ _ h => h) (by rfl) ?y9t (by assumption) ?_
    case y9t => intro w h; (try dsimp only at h); go_simp; try with_reducible rfl
    simp only [sE0, sE1]; refine wpAnyH_done (by kernel_rfl) ?_ _
    have hbe := below_step hb5 hHeld.1; clear hHeld HT hbd; go_wp2_with fail
    go_ret2
    exact ⟨by show Ending.returned (.tuple #[.int .i64 (IntKind.i64.wrap (M1 - M2)), .int .i64 0]) = _; rw [show IntKind.i64.wrap (M1 - M2) = M1 - M2 from wrap_subG hm1 hm2 hm3 hm4], hbe⟩
   ·have hN := cells_newG wc [.string x.player, .string x.pos, .int .i64 x.value] 78
    have hbn := below_alloc wc (.cells #[.string x.player, .string x.pos, .int .i64 x.value] 78); go_simp; obtain ⟨wn, hwn⟩ : ∃ wn, wc.alloc (.cells #[.string x.player, .string x.pos, .int .i64 x.value] 78) = wn := ⟨_, rfl⟩
    rw [hwn] at hN hbn ⊢
    clear hwn; replace hC := HS.out _ (below_step hC.1 hbn); try replace hZ := cells_later hZ hbn
    try replace hown := own_belowG hown hbn
    try replace hownF := own_belowG hownF hbn
    try replace hCa := hCa.below hbn
    clear hbn; obtain ⟨wc, rfl⟩ : ∃ wc, wc = wn := ⟨_, rfl⟩
    refine hK.out _ _ (fun _ => ?_) ?_
    ·(exact hC)
    clear hK K; try simp only [Act.put, sEt, sE0, sE1]
    refine readyC (rs := [1]) (by kernel_rfl) (by simp) (each_cons (runC o43_4_1 (by rfl) (fun K hK => ?_)) each_nil)
    go_simp; refine (C.out _ hC.1).mono ?_; rintro e w2 ⟨v1, hown, rfl, hbc⟩; replace hown := World.ownsRow.mono hown hC.1.size; obtain ⟨wc, rfl⟩ : ∃ wc, wc = w2 := ⟨_, rfl⟩
    replace hC := HS.out _ (below_step hC.1 hbc); try replace hZ := cells_later hZ hbc
    try replace hN := news_below hbc hN
    try replace hown2 := own_belowG hown2 hbc
    try replace hCa := hCa.below hbc
    go_wp2_with fail
    refine hK.out _ _ (fun _ => ?_) ?_
    ·(exact hC)
    clear hK K; try simp only [Act.put, sEt, sE0, sE1]
    refine readyC (rs := [4]) (by kernel_rfl) (by simp) (each_cons (runC o43_4_4 (by rfl) (fun K hK => ?_)) each_nil)
    refine wp_append_at _ (.tmp 32) (.tmp 34) 52 rfl W.heap.size 78 i0 (.agg #[.string ⟨#[]⟩, .string ⟨#[]⟩, .int .i64 0]) 3 40 Tryz.underlying52 hi hz0 hz1 hz2 rfl (by decide) v1 xs.length _ rfl hown _ 1 1 [.string x.player, .string x.pos, .int .i64 x.value] rfl rfl hN (by simp [Value.oneCell']) (by unfold maxLen; omega) (by omega) hC.1.size ?_
    intro v2 w2 hown2 hgrow; have hCb := HS.out _ (hC.1.grown hgrow hC.1.size fun r hr => (own_block hown r hr).1)
    try replace hZ := (hgrow.block _ (lt_of_heap hZ) (fun e => by obtain ⟨_, cur, hc⟩ := own_block hown _ e.symm; rw [hZ] at hc; simp at hc)).trans hZ
    have hownF : OwnAs w2 W.heap.size v2 (xs ++ [x]) := by
     unfold OwnAs; have e : ((xs ++ [x]).map asRow).flatten = (xs.map asRow).flatten ++ [.string x.player, .string x.pos, .int .i64 x.value] := by simp [asRow]
     rw [e, List.length_append]; exact hown2
    clear hgrow hown hC hN hown2; have hC := hCb; clear hCb; obtain ⟨wc, rfl⟩ : ∃ wc, wc = w2 := ⟨_, rfl⟩
    refine hK.out _ _ (fun h => absurd h (by decide)) ?_
    clear hK K; try simp only [Act.put, sEt, sE0, sE1]
    refine readyC (rs := [6]) (by kernel_rfl) (by simp) (each_cons (runC o43_4_6 (by rfl) (fun K hK => ?_)) each_nil)
    go_simp; have hFr := fresh_own hownF; refine (DP.out _ hC.1 _ _ (hFr.ass (by simp; omega))).mono ?_
    rintro e w2 ⟨cv, rfl, hCa, hbc⟩; obtain ⟨wc, rfl⟩ : ∃ wc, wc = w2 := ⟨_, rfl⟩
    clear hFr hownF; obtain ⟨ca, cc, rfl⟩ := ca_shape hCa; replace hC := HS.out _ (below_step hC.1 hbc); try replace hZ := cells_later hZ hbc
    go_wp2_with fail
    refine hK.out _ _ (fun _ => ?_) ?_
    ·(exact hC)
    clear hK K; try simp only [Act.put, sEt, sE0, sE1]
    refine readyC (rs := [8]) (by kernel_rfl) (by simp) (each_cons (runC o43_4_8 (by rfl) (fun K hK => ?_)) each_nil)
    have hfz := fun o => frozen_ofG hZ o
    have z0 := cell_at hZ 0 rfl; have z1 := cell_at hZ 1 rfl; go_simp; refine hK.out _ _ (fun h => absurd h (by decide)) ?_
    clear hK K; try simp only [sEt, sE0, sE1]
    refine doneC (by kernel_rfl) ?_ _
    obtain ⟨gz, w5, hgq, hw5, hZo, hZ5, hg5, hgl⟩ := pool_put hZ hgz (.slice pa np pc) (.slice ca CS.length cc); rw [hgq]; rw [← hw5]; have hC5 : Cas w5 0 (.slice ca CS.length cc) CS := Cas.mono (show Cas w5 _ _ CS from Rows.row hCa hg5 (fun r hr => by cases hr; exact ⟨_, _, _, hZo, by decide⟩)) (Nat.zero_le _)
    have hb5 : Below w.heap.size w w5 := below_gbG (below_step HwW.out hC.1) hg5 (by have := HwW.out.size; omega)
    have hx5 := heap_gbG hC.2.2.2.2 hg5 (by have := HWs.out; omega)
    have x0 := cell_at hx5 0 rfl; have z0 := cell_at hZ5 0 rfl; have z1 := cell_at hZ5 1 rfl; have HT := Lib.hid (show ∀ w', Below w5.heap.size w5 w' → (Below w5.heap.size w5 w' ∧ w'.cell? ⟨gz, 0, none⟩ = some (.slice pa np pc) ∧ w'.cell? ⟨gz, 1, none⟩ = some (.slice ca CS.length cc) ∧ w'.cell? ⟨w.heap.size, 0, none⟩ = some (.string x.player)) from fun w' hb => ⟨hb, below_cell hb z0, below_cell hb z1, below_cell hb x0⟩)
    have hbd := (Below.refl w5.heap.size w5).drew; clear x0 z0 z1 hx5 hZ5 hZo hZ hC hCa hw5 hgq hgz hfz HS hg5; go_upto_region 5 with fail
    show Code.wp _ (Code.region 5 o43_5 true) _ _ _
    refine region_start 10 (fun w' => Below w5.heap.size w5 w' ∧ w'.cell? ⟨gz, 0, none⟩ = some (.slice pa np pc) ∧ w'.cell? ⟨gz, 1, none⟩ = some (.slice ca CS.length cc) ∧ w'.cell? ⟨w.heap.size, 0, none⟩ = some (.string x.player)) (by kernel_rfl) rfl ?_ (fun hHeld => ?_)
    ·(exact HT.out _ (by first | exact hbd | exact hHeld.1 | exact below_step hHeld.1 (by assumption)))
    refine take_to 0 38 (bQ 10 1) (v := ?_) o43_5_0 rfl o43_5_ns (by kernel_rfl) (by kernel_rfl) (fun _ _ _ h => h) (by rfl) ?y0t (by assumption) ?_
    case y0t => intro w h; (try dsimp only at h); go_simp; try with_reducible rfl
    simp only [sE0, sE1]; refine take_to 2 40 (bQ 10 5) (v := ?_) o43_5_2 rfl o43_5_ns (by kernel_rfl) (by kernel_rfl) (fun _ _ _ h => h) (by rfl) ?y2t (by assumption) ?_
    case y2t => intro w h; (try dsimp only at h); go_simp; try with_reducible rfl
    simp only [sE0, sE1]; refine take_to 3 41 (bQ 10 13) (v := ?_) o43_5_3 rfl o43_5_ns (by kernel_rfl) (by kernel_rfl) (fun _ _ _ h => h) (by rfl) ?y3t (by assumption) ?_
    case y3t => intro w h; (try dsimp only at h); go_simp; try with_reducible rfl
    simp only [sE0, sE1]; refine take_to 4 42 (bQ 10 29) (v := ?_) o43_5_4 rfl o43_5_ns (by kernel_rfl) (by kernel_rfl) (fun _ _ _ h => h) (by rfl) ?y4t (by assumption) ?_
    case y4t => intro w h; (try dsimp only at h); go_simp; try with_reducible rfl
    simp only [sE0, sE1]; refine run_to 1 (bQ 10 31) o43_5_1 (by kernel_rfl) (by kernel_rfl) (by rfl) (fun K hK => ?_)
    go_simp; refine (DM.out _ (below_step hb5 hHeld.1) _ _ (hC5.below hHeld.1)).mono ?_; rintro e w' ⟨rfl, hbh⟩; go_wp2_with fail
    refine hK.out _ _ ?_ (fun hHeld => ?_)
    ·(exact HT.out _ (by first | exact hbd | exact hHeld.1 | exact below_step hHeld.1 (by assumption)))
    clear hK K; try simp only [Act.put, sEt, sE0, sE1]
    refine run_to 5 (bQ 10 63) o43_5_5 (by kernel_rfl) (by kernel_rfl) (by rfl) (fun K hK => ?_)
    go_simp; refine (but_calls _ _).mono ?_; rintro e w' ⟨rfl, hbh, hcap⟩; go_wp2_with fail
    refine hK.out _ _ ?_ (fun hHeld => ?_)
    ·(exact HT.out _ (by first | exact hbd | exact hHeld.1 | exact below_step hHeld.1 (by assumption)))
    clear hK K; try simp only [Act.put, sEt, sE0, sE1]
    refine run_to 6 (bQ 10 127) o43_5_6 (by kernel_rfl) (by kernel_rfl) (by rfl) (fun K hK => ?_)
    go_simp; refine (DB.out _ (below_step hb5 hHeld.1) _ _ (hC5.below hHeld.1) _ hcap).mono ?_; rintro e w' ⟨rfl, hbh⟩; go_wp2_with fail
    refine hK.out _ _ ?_ (fun hHeld => ?_)
    ·(exact HT.out _ (by first | exact hbd | exact hHeld.1 | exact below_step hHeld.1 (by assumption)))
    clear hK K; try simp only [Act.put, sEt, sE0, sE1]
    refine take_to 7 45 (bQ 10 255) (v := ?_) o43_5_7 rfl o43_5_ns (by kernel_rfl) (by kernel_rfl) (fun _ _ _ h => h) (by rfl) ?y7t (by assumption) ?_
    case y7t => intro w h; (try dsimp only at h); go_simp; try with_reducible rfl
    simp only [sE0, sE1]; refine take_to 8 6 (bQ 10 511) (v := ?_) o43_5_8 rfl o43_5_ns (by kernel_rfl) (by kernel_rfl) (fun _ _ _ h => h) (by rfl) ?y8t (by assumption) ?_
    case y8t => intro w h; (try dsimp only at h); go_simp; try with_reducible rfl
    simp only [sE0, sE1]; refine take_to 9 7 (bQ 10 1023) (v := ?_) o43_5_9 rfl o43_5_ns (by kernel_rfl) (by kernel_rfl) (fun _ _ _ h => h) (by rfl) ?y9t (by assumption) ?_
    case y9t => intro w h; (try dsimp only at h); go_simp; try with_reducible rfl
    simp only [sE0, sE1]; refine wpAnyH_done (by kernel_rfl) ?_ _
    have hbe := below_step hb5 hHeld.1; clear hHeld HT hbd; go_wp2_with fail
    go_ret2
    exact ⟨by show Ending.returned (.tuple #[.int .i64 (IntKind.i64.wrap (M1 - M2)), .int .i64 0]) = _; rw [show IntKind.i64.wrap (M1 - M2) = M1 - M2 from wrap_subG hm1 hm2 hm3 hm4], hbe⟩
 ·have hA := ass_one wc x
  have hbn := below_alloc wc (.cells #[.string x.player, .string x.pos, .int .i64 x.value] 78); go_simp; obtain ⟨wn, hwn⟩ : ∃ wn, wc.alloc (.cells #[.string x.player, .string x.pos, .int .i64 x.value] 78) = wn := ⟨_, rfl⟩
  rw [hwn] at hA hbn ⊢
  clear hwn; replace hC := HS.out _ (below_step hC.1 hbn); clear hbn; obtain ⟨wc, rfl⟩ : ∃ wc, wc = wn := ⟨_, rfl⟩
  refine hK.out _ _ (fun _ => ?_) ?_
  ·(exact hC)
  clear hK K; try simp only [Act.put, sEt, sE0, sE1]
  refine readyC (rs := [2]) (by kernel_rfl) (by simp) (each_cons (runC o43_1_2 (by rfl) (fun K hK => ?_)) each_nil)
  go_simp; refine (D2.out _ hC.1).mono ?_; rintro e wc ⟨rfl, hbc⟩; replace hC := HS.out _ (below_step hC.1 hbc); try replace hA := hA.below hbc
  go_wp2_with fail
  refine hK.out _ _ (fun _ => ?_) ?_
  ·(exact hC)
  clear hK K; try simp only [Act.put, sEt, sE0, sE1]
  refine readyC (rs := [5]) (by kernel_rfl) (by simp) (each_cons (runC o43_1_5 (by rfl) (fun K hK => ?_)) each_nil)
  go_simp; refine (D5.out _ _ _ hA).mono ?_; rintro e wc ⟨rfl, hbc⟩; replace hC := HS.out _ (below_step hC.1 hbc); clear hA; go_wp2_with fail
  refine hK.out _ _ (fun _ => ?_) ?_
  ·(exact hC)
  clear hK K; try simp only [Act.put, sEt, sE0, sE1]
  refine readyC (rs := [9]) (by kernel_rfl) (by simp) (each_cons (runC o43_1_9 (by rfl) (fun K hK => ?_)) each_nil)
  go_simp; refine (D9.out _ hC.1).mono ?_; rintro e wc ⟨rfl, hbc⟩; replace hC := HS.out _ (below_step hC.1 hbc); go_wp2_with fail
  refine hK.out _ _ (fun _ => ?_) ?_
  ·(exact hC)
  clear hK K; try simp only [Act.put, sEt, sE0, sE1]
  refine takeC 10 20 (v := ?_) o43_1_10 rfl (by kernel_rfl) (by kernel_rfl) (by kernel_rfl) (by rfl) (fun _ _ _ h => h) (by rfl) ?y10_12 ?_
  case y10_12 => intro w; go_simp; try with_reducible rfl
  simp only [sE0, sE1]; refine readyC (rs := [11]) (by kernel_rfl) (by simp) (each_cons (runC o43_1_11 (by rfl) (fun K hK => ?_)) each_nil)
  go_simp; refine (unless_calls _ _ _).mono ?_; rintro e w' ⟨rfl, rfl⟩; go_wp2_with fail
  refine hK.out _ _ (fun h => absurd h (by decide)) ?_
  clear hK K; try simp only [Act.put, sEt, sE0, sE1]
  refine readyC (rs := [15]) (by kernel_rfl) (by simp) (each_cons (runC o43_1_15 (by rfl) (fun K hK => ?_)) each_nil)
  go_simp; refine (unless_calls _ _ _).mono ?_; rintro e w' ⟨rfl, rfl⟩; go_wp2_with fail
  refine hK.out _ _ (fun h => absurd h (by decide)) ?_
  clear hK K; try simp only [Act.put, sEt, sE0, sE1]
  refine readyC (rs := [16]) (by kernel_rfl) (by simp) (each_cons (runC o43_1_16 (by rfl) (fun K hK => ?_)) each_nil)
  go_simp; refine hK.out _ _ (fun h => absurd h (by decide)) ?_
  clear hK K; try simp only [Act.put, sEt, sE0, sE1]
  refine readyC (rs := [17]) (by kernel_rfl) (by simp) (each_cons (runC o43_1_17 (by rfl) (fun K hK => ?_)) each_nil)
  go_simp; refine (orE_calls _ 0 4 [T0, K0, unlessE (!I0) 6, unlessE (decide ((xs.length : Int) < 300)) 12] _ (by simp) (by exact nums4' _ _ _ _ _ _)).mono ?_
  rintro e w' ⟨rfl, rfl⟩; rw [← HE.out]; go_wp2_with fail
  refine hK.out _ _ (fun h => absurd h (by decide)) ?_
  clear hK K; try simp only [Act.put, sEt, sE0, sE1]
  refine takeC 18 8 (v := ?_) o43_1_18 rfl (by kernel_rfl) (by kernel_rfl) (by kernel_rfl) (by rfl) (fun _ _ _ h => h) (by rfl) ?y18_13 ?_
  case y18_13 => intro w; go_simp; try with_reducible rfl
  simp only [sE0, sE1]; refine doneC (by kernel_rfl) ?_ _
  replace hC := HS.out _ (below_step hC.1 (below_alloc wc (.cells #[.int .i64 T0, .int .i64 K0, .int .i64 (unlessE (!I0) 6), .int .i64 (unlessE (decide ((xs.length : Int) < 300)) 12)] 34))); obtain ⟨wc, hwn⟩ : ∃ wn, wn = wc.alloc (.cells #[.int .i64 T0, .int .i64 K0, .int .i64 (unlessE (!I0) 6), .int .i64 (unlessE (decide ((xs.length : Int) < 300)) 12)] 34) := ⟨_, rfl⟩
  rw [← hwn] at hC ⊢
  clear hwn HE D2 D5 D9; go_upto_region 4 with fail
  have hC4 := HS.out wc.drew hC.1.drew; show Code.wp _ (Code.region 4 o43_4 true) _ _ _
  refine regionC_start 9 (fun w' => Below W.heap.size W w' ∧ w'.cell? ⟨w.heap.size, 0, none⟩ = some (.string x.player) ∧ w'.cell? ⟨w.heap.size, 1, none⟩ = some (.string x.pos) ∧ w'.cell? ⟨w.heap.size, 2, none⟩ = some (.int .i64 x.value) ∧ w'.heap[w.heap.size]? = some (.cells #[.string x.player, .string x.pos, .int .i64 x.value] 78 (0, 0))) (fun j => [1, 2, 3, 6, 7].contains j) (by kernel_rfl) rfl ?_
  generalize wc.drew = wd at hC4 ⊢
  clear hC; obtain ⟨wc, rfl⟩ : ∃ wc, wc = wd := ⟨_, rfl⟩
  have hC := hC4; clear hC4; refine takeC 0 31 (v := ?_) o43_4_0 rfl (by kernel_rfl) (by kernel_rfl) (by kernel_rfl) (by rfl) (fun _ _ _ h => h) (by rfl) ?y0_1 ?_
  case y0_1 => intro w; go_simp; try with_reducible rfl
  simp only [sE0, sE1]; refine takeC 5 36 (v := ?_) o43_4_5 rfl (by kernel_rfl) (by kernel_rfl) (by kernel_rfl) (by rfl) (fun _ _ _ h => h) (by rfl) ?y5_2 ?_
  case y5_2 => intro w; go_simp; try with_reducible rfl
  simp only [sE0, sE1]; refine loadC 2 33 (v := ?_) o43_4_2 rfl (by kernel_rfl) (by kernel_rfl) (by kernel_rfl) (by kernel_rfl) (fun _ _ _ h => h) (by rfl) ?y2_3 (by exact hC) ?_
  case y2_3 => intro w h; (try dsimp only at h); go_simp; try with_reducible rfl
  simp only [sE0, sE1]; refine readyC (rs := [1, 3, 7]) (by kernel_rfl) (by simp) (each_cons (runC o43_4_1 (by rfl) (fun K hK => ?_)) (each_cons (runC o43_4_3 (by rfl) (fun K hK => ?_)) (each_cons (runC o43_4_7 (by rfl) (fun K hK => ?_)) each_nil)))
  ·go_simp
   refine (C.out _ hC.1).mono ?_; rintro e w2 ⟨v1, hown, rfl, hbc⟩; replace hown := World.ownsRow.mono hown hC.1.size; obtain ⟨wc, rfl⟩ : ∃ wc, wc = w2 := ⟨_, rfl⟩
   replace hC := HS.out _ (below_step hC.1 hbc); try replace hZ := cells_later hZ hbc
   try replace hN := news_below hbc hN
   try replace hown2 := own_belowG hown2 hbc
   try replace hCa := hCa.below hbc
   go_wp2_with fail
   refine hK.out _ _ (fun _ => ?_) ?_
   ·(exact hC)
   clear hK K; try simp only [Act.put, sEt, sE0, sE1]
   refine readyC (rs := [3, 7]) (by kernel_rfl) (by simp) (each_cons (runC o43_4_3 (by rfl) (fun K hK => ?_)) (each_cons (runC o43_4_7 (by rfl) (fun K hK => ?_)) each_nil))
   ·have hN := cells_newG wc [.string x.player, .string x.pos, .int .i64 x.value] 78
    have hbn := below_alloc wc (.cells #[.string x.player, .string x.pos, .int .i64 x.value] 78); go_simp; obtain ⟨wn, hwn⟩ : ∃ wn, wc.alloc (.cells #[.string x.player, .string x.pos, .int .i64 x.value] 78) = wn := ⟨_, rfl⟩
    rw [hwn] at hN hbn ⊢
    clear hwn; replace hC := HS.out _ (below_step hC.1 hbn); try replace hZ := cells_later hZ hbn
    try replace hown := own_belowG hown hbn
    try replace hownF := own_belowG hownF hbn
    try replace hCa := hCa.below hbn
    clear hbn; obtain ⟨wc, rfl⟩ : ∃ wc, wc = wn := ⟨_, rfl⟩
    refine hK.out _ _ (fun _ => ?_) ?_
    ·(exact hC)
    clear hK K; try simp only [Act.put, sEt, sE0, sE1]
    refine readyC (rs := [4, 7]) (by kernel_rfl) (by simp) (each_cons (runC o43_4_4 (by rfl) (fun K hK => ?_)) (each_cons (runC o43_4_7 (by rfl) (fun K hK => ?_)) each_nil))
    ·refine wp_append_at _ (.tmp 32) (.tmp 34) 52 rfl W.heap.size 78 i0 (.agg #[.string ⟨#[]⟩, .string ⟨#[]⟩, .int .i64 0]) 3 40 Tryz.underlying52 hi hz0 hz1 hz2 rfl (by decide) v1 xs.length _ rfl hown _ 1 1 [.string x.player, .string x.pos, .int .i64 x.value] rfl rfl hN (by simp [Value.oneCell']) (by unfold maxLen; omega) (by omega) hC.1.size ?_
     intro v2 w2 hown2 hgrow; have hCb := HS.out _ (hC.1.grown hgrow hC.1.size fun r hr => (own_block hown r hr).1)
     try replace hZ := (hgrow.block _ (lt_of_heap hZ) (fun e => by obtain ⟨_, cur, hc⟩ := own_block hown _ e.symm; rw [hZ] at hc; simp at hc)).trans hZ
     have hownF : OwnAs w2 W.heap.size v2 (xs ++ [x]) := by
      unfold OwnAs; have e : ((xs ++ [x]).map asRow).flatten = (xs.map asRow).flatten ++ [.string x.player, .string x.pos, .int .i64 x.value] := by simp [asRow]
      rw [e, List.length_append]; exact hown2
     clear hgrow hown hC hN hown2; have hC := hCb; clear hCb; obtain ⟨wc, rfl⟩ : ∃ wc, wc = w2 := ⟨_, rfl⟩
     refine hK.out _ _ (fun h => absurd h (by decide)) ?_
     clear hK K; try simp only [Act.put, sEt, sE0, sE1]
     refine readyC (rs := [6, 7]) (by kernel_rfl) (by simp) (each_cons (runC o43_4_6 (by rfl) (fun K hK => ?_)) (each_cons (runC o43_4_7 (by rfl) (fun K hK => ?_)) each_nil))
     ·go_simp
      have hFr := fresh_own hownF; refine (DP.out _ hC.1 _ _ (hFr.ass (by simp; omega))).mono ?_
      rintro e w2 ⟨cv, rfl, hCa, hbc⟩; obtain ⟨wc, rfl⟩ : ∃ wc, wc = w2 := ⟨_, rfl⟩
      clear hFr hownF; obtain ⟨ca, cc, rfl⟩ := ca_shape hCa; replace hC := HS.out _ (below_step hC.1 hbc); try replace hZ := cells_later hZ hbc
      go_wp2_with fail
      refine hK.out _ _ (fun _ => ?_) ?_
      ·(exact hC)
      clear hK K; try simp only [Act.put, sEt, sE0, sE1]
      refine readyC (rs := [7]) (by kernel_rfl) (by simp) (each_cons (runC o43_4_7 (by rfl) (fun K hK => ?_)) each_nil)
      have hZ := heap_alloc_new wc (.cells #[.slice none 0 0, .slice none 0 0] 142); have hbn := below_alloc wc (.cells #[.slice none 0 0, .slice none 0 0] 142); have hgz := hC.1.size; go_simp; obtain ⟨wn, hwn⟩ : ∃ wn, wc.alloc (.cells #[.slice none 0 0, .slice none 0 0] 142) = wn := ⟨_, rfl⟩
      rw [hwn] at hZ hbn ⊢
      clear hwn; replace hC := HS.out _ (below_step hC.1 hbn); try replace hN := news_below hbn hN
      try replace hown := own_belowG hown hbn
      try replace hownF := own_belowG hownF hbn
      try replace hCa := hCa.below hbn
      clear hbn; obtain ⟨wc, rfl⟩ : ∃ wc, wc = wn := ⟨_, rfl⟩
      refine hK.out _ _ (fun _ => ?_) ?_
      ·(exact hC)
      clear hK K; try simp only [Act.put, sEt, sE0, sE1]
      refine readyC (rs := [8]) (by kernel_rfl) (by simp) (each_cons (runC o43_4_8 (by rfl) (fun K hK => ?_)) each_nil)
      have hfz := fun o => frozen_ofG hZ o
      have z0 := cell_at hZ 0 rfl; have z1 := cell_at hZ 1 rfl; go_simp; refine hK.out _ _ (fun h => absurd h (by decide)) ?_
      clear hK K; try simp only [sEt, sE0, sE1]
      refine doneC (by kernel_rfl) ?_ _
      obtain ⟨gz, w5, hgq, hw5, hZo, hZ5, hg5, hgl⟩ := pool_put hZ hgz (.slice pa np pc) (.slice ca CS.length cc); rw [hgq]; rw [← hw5]; have hC5 : Cas w5 0 (.slice ca CS.length cc) CS := Cas.mono (show Cas w5 _ _ CS from Rows.row hCa hg5 (fun r hr => by cases hr; exact ⟨_, _, _, hZo, by decide⟩)) (Nat.zero_le _)
      have hb5 : Below w.heap.size w w5 := below_gbG (below_step HwW.out hC.1) hg5 (by have := HwW.out.size; omega)
      have hx5 := heap_gbG hC.2.2.2.2 hg5 (by have := HWs.out; omega)
      have x0 := cell_at hx5 0 rfl; have z0 := cell_at hZ5 0 rfl; have z1 := cell_at hZ5 1 rfl; have HT := Lib.hid (show ∀ w', Below w5.heap.size w5 w' → (Below w5.heap.size w5 w' ∧ w'.cell? ⟨gz, 0, none⟩ = some (.slice pa np pc) ∧ w'.cell? ⟨gz, 1, none⟩ = some (.slice ca CS.length cc) ∧ w'.cell? ⟨w.heap.size, 0, none⟩ = some (.string x.player)) from fun w' hb => ⟨hb, below_cell hb z0, below_cell hb z1, below_cell hb x0⟩)
      have hbd := (Below.refl w5.heap.size w5).drew; clear x0 z0 z1 hx5 hZ5 hZo hZ hC hCa hw5 hgq hgz hfz HS hg5; go_upto_region 5 with fail
      show Code.wp _ (Code.region 5 o43_5 true) _ _ _
      refine region_start 10 (fun w' => Below w5.heap.size w5 w' ∧ w'.cell? ⟨gz, 0, none⟩ = some (.slice pa np pc) ∧ w'.cell? ⟨gz, 1, none⟩ = some (.slice ca CS.length cc) ∧ w'.cell? ⟨w.heap.size, 0, none⟩ = some (.string x.player)) (by kernel_rfl) rfl ?_ (fun hHeld => ?_)
      ·(exact HT.out _ (by first | exact hbd | exact hHeld.1 | exact below_step hHeld.1 (by assumption)))
      refine take_to 0 38 (bQ 10 1) (v := ?_) o43_5_0 rfl o43_5_ns (by kernel_rfl) (by kernel_rfl) (fun _ _ _ h => h) (by rfl) ?y0t (by assumption) ?_
      case y0t => intro w h; (try dsimp only at h); go_simp; try with_reducible rfl
      simp only [sE0, sE1]; refine take_to 2 40 (bQ 10 5) (v := ?_) o43_5_2 rfl o43_5_ns (by kernel_rfl) (by kernel_rfl) (fun _ _ _ h => h) (by rfl) ?y2t (by assumption) ?_
      case y2t => intro w h; (try dsimp only at h); go_simp; try with_reducible rfl
      simp only [sE0, sE1]; refine take_to 3 41 (bQ 10 13) (v := ?_) o43_5_3 rfl o43_5_ns (by kernel_rfl) (by kernel_rfl) (fun _ _ _ h => h) (by rfl) ?y3t (by assumption) ?_
      case y3t => intro w h; (try dsimp only at h); go_simp; try with_reducible rfl
      simp only [sE0, sE1]; refine take_to 4 42 (bQ 10 29) (v := ?_) o43_5_4 rfl o43_5_ns (by kernel_rfl) (by kernel_rfl) (fun _ _ _ h => h) (by rfl) ?y4t (by assumption) ?_
      case y4t => intro w h; (try dsimp only at h); go_simp; try with_reducible rfl
      simp only [sE0, sE1]; refine run_to 1 (bQ 10 31) o43_5_1 (by kernel_rfl) (by kernel_rfl) (by rfl) (fun K hK => ?_)
      go_simp; refine (DM.out _ (below_step hb5 hHeld.1) _ _ (hC5.below hHeld.1)).mono ?_; rintro e w' ⟨rfl, hbh⟩; go_wp2_with fail
      refine hK.out _ _ ?_ (fun hHeld => ?_)
      ·(exact HT.out _ (by first | exact hbd | exact hHeld.1 | exact below_step hHeld.1 (by assumption)))
      clear hK K; try simp only [Act.put, sEt, sE0, sE1]
      refine run_to 5 (bQ 10 63) o43_5_5 (by kernel_rfl) (by kernel_rfl) (by rfl) (fun K hK => ?_)
      go_simp; refine (but_calls _ _).mono ?_; rintro e w' ⟨rfl, hbh, hcap⟩; go_wp2_with fail
      refine hK.out _ _ ?_ (fun hHeld => ?_)
      ·(exact HT.out _ (by first | exact hbd | exact hHeld.1 | exact below_step hHeld.1 (by assumption)))
      clear hK K; try simp only [Act.put, sEt, sE0, sE1]
      refine run_to 6 (bQ 10 127) o43_5_6 (by kernel_rfl) (by kernel_rfl) (by rfl) (fun K hK => ?_)
      go_simp; refine (DB.out _ (below_step hb5 hHeld.1) _ _ (hC5.below hHeld.1) _ hcap).mono ?_; rintro e w' ⟨rfl, hbh⟩; go_wp2_with fail
      refine hK.out _ _ ?_ (fun hHeld => ?_)
      ·(exact HT.out _ (by first | exact hbd | exact hHeld.1 | exact below_step hHeld.1 (by assumption)))
      clear hK K; try simp only [Act.put, sEt, sE0, sE1]
      refine take_to 7 45 (bQ 10 255) (v := ?_) o43_5_7 rfl o43_5_ns (by kernel_rfl) (by kernel_rfl) (fun _ _ _ h => h) (by rfl) ?y7t (by assumption) ?_
      case y7t => intro w h; (try dsimp only at h); go_simp; try with_reducible rfl
      simp only [sE0, sE1]; refine take_to 8 6 (bQ 10 511) (v := ?_) o43_5_8 rfl o43_5_ns (by kernel_rfl) (by kernel_rfl) (fun _ _ _ h => h) (by rfl) ?y8t (by assumption) ?_
      case y8t => intro w h; (try dsimp only at h); go_simp; try with_reducible rfl
      simp only [sE0, sE1]; refine take_to 9 7 (bQ 10 1023) (v := ?_) o43_5_9 rfl o43_5_ns (by kernel_rfl) (by kernel_rfl) (fun _ _ _ h => h) (by rfl) ?y9t (by assumption) ?_
      case y9t => intro w h; (try dsimp only at h); go_simp; try with_reducible rfl
      simp only [sE0, sE1]; refine wpAnyH_done (by kernel_rfl) ?_ _
      have hbe := below_step hb5 hHeld.1; clear hHeld HT hbd; go_wp2_with fail
      go_ret2
      exact ⟨by show Ending.returned (.tuple #[.int .i64 (IntKind.i64.wrap (M1 - M2)), .int .i64 0]) = _; rw [show IntKind.i64.wrap (M1 - M2) = M1 - M2 from wrap_subG hm1 hm2 hm3 hm4], hbe⟩
     ·have hZ := heap_alloc_new wc (.cells #[.slice none 0 0, .slice none 0 0] 142)
      have hbn := below_alloc wc (.cells #[.slice none 0 0, .slice none 0 0] 142); have hgz := hC.1.size; go_simp; obtain ⟨wn, hwn⟩ : ∃ wn, wc.alloc (.cells #[.slice none 0 0, .slice none 0 0] 142) = wn := ⟨_, rfl⟩
      rw [hwn] at hZ hbn ⊢
      clear hwn; replace hC := HS.out _ (below_step hC.1 hbn); try replace hN := news_below hbn hN
      try replace hown := own_belowG hown hbn
      try replace hownF := own_belowG hownF hbn
      try replace hCa := hCa.below hbn
      clear hbn; obtain ⟨wc, rfl⟩ : ∃ wc, wc = wn := ⟨_, rfl⟩
      refine hK.out _ _ (fun _ => ?_) ?_
      ·(exact hC)
      clear hK K; try simp only [Act.put, sEt, sE0, sE1]
      refine readyC (rs := [6]) (by kernel_rfl) (by simp) (each_cons (runC o43_4_6 (by rfl) (fun K hK => ?_)) each_nil)
      go_simp; have hFr := fresh_own hownF; refine (DP.out _ hC.1 _ _ (hFr.ass (by simp; omega))).mono ?_
      rintro e w2 ⟨cv, rfl, hCa, hbc⟩; obtain ⟨wc, rfl⟩ : ∃ wc, wc = w2 := ⟨_, rfl⟩
      clear hFr hownF; obtain ⟨ca, cc, rfl⟩ := ca_shape hCa; replace hC := HS.out _ (below_step hC.1 hbc); try replace hZ := cells_later hZ hbc
      go_wp2_with fail
      refine hK.out _ _ (fun _ => ?_) ?_
      ·(exact hC)
      clear hK K; try simp only [Act.put, sEt, sE0, sE1]
      refine readyC (rs := [8]) (by kernel_rfl) (by simp) (each_cons (runC o43_4_8 (by rfl) (fun K hK => ?_)) each_nil)
      have hfz := fun o => frozen_ofG hZ o
      have z0 := cell_at hZ 0 rfl; have z1 := cell_at hZ 1 rfl; go_simp; refine hK.out _ _ (fun h => absurd h (by decide)) ?_
      clear hK K; try simp only [sEt, sE0, sE1]
      refine doneC (by kernel_rfl) ?_ _
      obtain ⟨gz, w5, hgq, hw5, hZo, hZ5, hg5, hgl⟩ := pool_put hZ hgz (.slice pa np pc) (.slice ca CS.length cc); rw [hgq]; rw [← hw5]; have hC5 : Cas w5 0 (.slice ca CS.length cc) CS := Cas.mono (show Cas w5 _ _ CS from Rows.row hCa hg5 (fun r hr => by cases hr; exact ⟨_, _, _, hZo, by decide⟩)) (Nat.zero_le _)
      have hb5 : Below w.heap.size w w5 := below_gbG (below_step HwW.out hC.1) hg5 (by have := HwW.out.size; omega)
      have hx5 := heap_gbG hC.2.2.2.2 hg5 (by have := HWs.out; omega)
      have x0 := cell_at hx5 0 rfl; have z0 := cell_at hZ5 0 rfl; have z1 := cell_at hZ5 1 rfl; have HT := Lib.hid (show ∀ w', Below w5.heap.size w5 w' → (Below w5.heap.size w5 w' ∧ w'.cell? ⟨gz, 0, none⟩ = some (.slice pa np pc) ∧ w'.cell? ⟨gz, 1, none⟩ = some (.slice ca CS.length cc) ∧ w'.cell? ⟨w.heap.size, 0, none⟩ = some (.string x.player)) from fun w' hb => ⟨hb, below_cell hb z0, below_cell hb z1, below_cell hb x0⟩)
      have hbd := (Below.refl w5.heap.size w5).drew; clear x0 z0 z1 hx5 hZ5 hZo hZ hC hCa hw5 hgq hgz hfz HS hg5; go_upto_region 5 with fail
      show Code.wp _ (Code.region 5 o43_5 true) _ _ _
      refine region_start 10 (fun w' => Below w5.heap.size w5 w' ∧ w'.cell? ⟨gz, 0, none⟩ = some (.slice pa np pc) ∧ w'.cell? ⟨gz, 1, none⟩ = some (.slice ca CS.length cc) ∧ w'.cell? ⟨w.heap.size, 0, none⟩ = some (.string x.player)) (by kernel_rfl) rfl ?_ (fun hHeld => ?_)
      ·(exact HT.out _ (by first | exact hbd | exact hHeld.1 | exact below_step hHeld.1 (by assumption)))
      refine take_to 0 38 (bQ 10 1) (v := ?_) o43_5_0 rfl o43_5_ns (by kernel_rfl) (by kernel_rfl) (fun _ _ _ h => h) (by rfl) ?y0t (by assumption) ?_
      case y0t => intro w h; (try dsimp only at h); go_simp; try with_reducible rfl
      simp only [sE0, sE1]; refine take_to 2 40 (bQ 10 5) (v := ?_) o43_5_2 rfl o43_5_ns (by kernel_rfl) (by kernel_rfl) (fun _ _ _ h => h) (by rfl) ?y2t (by assumption) ?_
      case y2t => intro w h; (try dsimp only at h); go_simp; try with_reducible rfl
      simp only [sE0, sE1]; refine take_to 3 41 (bQ 10 13) (v := ?_) o43_5_3 rfl o43_5_ns (by kernel_rfl) (by kernel_rfl) (fun _ _ _ h => h) (by rfl) ?y3t (by assumption) ?_
      case y3t => intro w h; (try dsimp only at h); go_simp; try with_reducible rfl
      simp only [sE0, sE1]; refine take_to 4 42 (bQ 10 29) (v := ?_) o43_5_4 rfl o43_5_ns (by kernel_rfl) (by kernel_rfl) (fun _ _ _ h => h) (by rfl) ?y4t (by assumption) ?_
      case y4t => intro w h; (try dsimp only at h); go_simp; try with_reducible rfl
      simp only [sE0, sE1]; refine run_to 1 (bQ 10 31) o43_5_1 (by kernel_rfl) (by kernel_rfl) (by rfl) (fun K hK => ?_)
      go_simp; refine (DM.out _ (below_step hb5 hHeld.1) _ _ (hC5.below hHeld.1)).mono ?_; rintro e w' ⟨rfl, hbh⟩; go_wp2_with fail
      refine hK.out _ _ ?_ (fun hHeld => ?_)
      ·(exact HT.out _ (by first | exact hbd | exact hHeld.1 | exact below_step hHeld.1 (by assumption)))
      clear hK K; try simp only [Act.put, sEt, sE0, sE1]
      refine run_to 5 (bQ 10 63) o43_5_5 (by kernel_rfl) (by kernel_rfl) (by rfl) (fun K hK => ?_)
      go_simp; refine (but_calls _ _).mono ?_; rintro e w' ⟨rfl, hbh, hcap⟩; go_wp2_with fail
      refine hK.out _ _ ?_ (fun hHeld => ?_)
      ·(exact HT.out _ (by first | exact hbd | exact hHeld.1 | exact below_step hHeld.1 (by assumption)))
      clear hK K; try simp only [Act.put, sEt, sE0, sE1]
      refine run_to 6 (bQ 10 127) o43_5_6 (by kernel_rfl) (by kernel_rfl) (by rfl) (fun K hK => ?_)
      go_simp; refine (DB.out _ (below_step hb5 hHeld.1) _ _ (hC5.below hHeld.1) _ hcap).mono ?_; rintro e w' ⟨rfl, hbh⟩; go_wp2_with fail
      refine hK.out _ _ ?_ (fun hHeld => ?_)
      ·(exact HT.out _ (by first | exact hbd | exact hHeld.1 | exact below_step hHeld.1 (by assumption)))
      clear hK K; try simp only [Act.put, sEt, sE0, sE1]
      refine take_to 7 45 (bQ 10 255) (v := ?_) o43_5_7 rfl o43_5_ns (by kernel_rfl) (by kernel_rfl) (fun _ _ _ h => h) (by rfl) ?y7t (by assumption) ?_
      case y7t => intro w h; (try dsimp only at h); go_simp; try with_reducible rfl
      simp only [sE0, sE1]; refine take_to 8 6 (bQ 10 511) (v := ?_) o43_5_8 rfl o43_5_ns (by kernel_rfl) (by kernel_rfl) (fun _ _ _ h => h) (by rfl) ?y8t (by assumption) ?_
      case y8t => intro w h; (try dsimp only at h); go_simp; try with_reducible rfl
      simp only [sE0, sE1]; refine take_to 9 7 (bQ 10 1023) (v := ?_) o43_5_9 rfl o43_5_ns (by kernel_rfl) (by kernel_rfl) (fun _ _ _ h => h) (by rfl) ?y9t (by assumption) ?_
      case y9t => intro w h; (try dsimp only at h); go_simp; try with_reducible rfl
      simp only [sE0, sE1]; refine wpAnyH_done (by kernel_rfl) ?_ _
      have hbe := below_step hb5 hHeld.1; clear hHeld HT hbd; go_wp2_with fail
      go_ret2
      exact ⟨by show Ending.returned (.tuple #[.int .i64 (IntKind.i64.wrap (M1 - M2)), .int .i64 0]) = _; rw [show IntKind.i64.wrap (M1 - M2) = M1 - M2 from wrap_subG hm1 hm2 hm3 hm4], hbe⟩
    ·have hZ := heap_alloc_new wc (.cells #[.slice none 0 0, .slice none 0 0] 142)
     have hbn := below_alloc wc (.cells #[.slice none 0 0, .slice none 0 0] 142); have hgz := hC.1.size; go_simp; obtain ⟨wn, hwn⟩ : ∃ wn, wc.alloc (.cells #[.slice none 0 0, .slice none 0 0] 142) = wn := ⟨_, rfl⟩
     rw [hwn] at hZ hbn ⊢
     clear hwn; replace hC := HS.out _ (below_step hC.1 hbn); try replace hN := news_below hbn hN
     try replace hown := own_belowG hown hbn
     try replace hownF := own_belowG hownF hbn
     try replace hCa := hCa.below hbn
     clear hbn; obtain ⟨wc, rfl⟩ : ∃ wc, wc = wn := ⟨_, rfl⟩
     refine hK.out _ _ (fun _ => ?_) ?_
     ·(exact hC)
     clear hK K; try simp only [Act.put, sEt, sE0, sE1]
     refine readyC (rs := [4]) (by kernel_rfl) (by simp) (each_cons (runC o43_4_4 (by rfl) (fun K hK => ?_)) each_nil)
     refine wp_append_at _ (.tmp 32) (.tmp 34) 52 rfl W.heap.size 78 i0 (.agg #[.string ⟨#[]⟩, .string ⟨#[]⟩, .int .i64 0]) 3 40 Tryz.underlying52 hi hz0 hz1 hz2 rfl (by decide) v1 xs.length _ rfl hown _ 1 1 [.string x.player, .string x.pos, .int .i64 x.value] rfl rfl hN (by simp [Value.oneCell']) (by unfold maxLen; omega) (by omega) hC.1.size ?_
     intro v2 w2 hown2 hgrow; have hCb := HS.out _ (hC.1.grown hgrow hC.1.size fun r hr => (own_block hown r hr).1)
     try replace hZ := (hgrow.block _ (lt_of_heap hZ) (fun e => by obtain ⟨_, cur, hc⟩ := own_block hown _ e.symm; rw [hZ] at hc; simp at hc)).trans hZ
     have hownF : OwnAs w2 W.heap.size v2 (xs ++ [x]) := by
      unfold OwnAs; have e : ((xs ++ [x]).map asRow).flatten = (xs.map asRow).flatten ++ [.string x.player, .string x.pos, .int .i64 x.value] := by simp [asRow]
      rw [e, List.length_append]; exact hown2
     clear hgrow hown hC hN hown2; have hC := hCb; clear hCb; obtain ⟨wc, rfl⟩ : ∃ wc, wc = w2 := ⟨_, rfl⟩
     refine hK.out _ _ (fun h => absurd h (by decide)) ?_
     clear hK K; try simp only [Act.put, sEt, sE0, sE1]
     refine readyC (rs := [6]) (by kernel_rfl) (by simp) (each_cons (runC o43_4_6 (by rfl) (fun K hK => ?_)) each_nil)
     go_simp; have hFr := fresh_own hownF; refine (DP.out _ hC.1 _ _ (hFr.ass (by simp; omega))).mono ?_
     rintro e w2 ⟨cv, rfl, hCa, hbc⟩; obtain ⟨wc, rfl⟩ : ∃ wc, wc = w2 := ⟨_, rfl⟩
     clear hFr hownF; obtain ⟨ca, cc, rfl⟩ := ca_shape hCa; replace hC := HS.out _ (below_step hC.1 hbc); try replace hZ := cells_later hZ hbc
     go_wp2_with fail
     refine hK.out _ _ (fun _ => ?_) ?_
     ·(exact hC)
     clear hK K; try simp only [Act.put, sEt, sE0, sE1]
     refine readyC (rs := [8]) (by kernel_rfl) (by simp) (each_cons (runC o43_4_8 (by rfl) (fun K hK => ?_)) each_nil)
     have hfz := fun o => frozen_ofG hZ o
     have z0 := cell_at hZ 0 rfl; have z1 := cell_at hZ 1 rfl; go_simp; refine hK.out _ _ (fun h => absurd h (by decide)) ?_
     clear hK K; try simp only [sEt, sE0, sE1]
     refine doneC (by kernel_rfl) ?_ _
     obtain ⟨gz, w5, hgq, hw5, hZo, hZ5, hg5, hgl⟩ := pool_put hZ hgz (.slice pa np pc) (.slice ca CS.length cc); rw [hgq]; rw [← hw5]; have hC5 : Cas w5 0 (.slice ca CS.length cc) CS := Cas.mono (show Cas w5 _ _ CS from Rows.row hCa hg5 (fun r hr => by cases hr; exact ⟨_, _, _, hZo, by decide⟩)) (Nat.zero_le _)
     have hb5 : Below w.heap.size w w5 := below_gbG (below_step HwW.out hC.1) hg5 (by have := HwW.out.size; omega)
     have hx5 := heap_gbG hC.2.2.2.2 hg5 (by have := HWs.out; omega)
     have x0 := cell_at hx5 0 rfl; have z0 := cell_at hZ5 0 rfl; have z1 := cell_at hZ5 1 rfl; have HT := Lib.hid (show ∀ w', Below w5.heap.size w5 w' → (Below w5.heap.size w5 w' ∧ w'.cell? ⟨gz, 0, none⟩ = some (.slice pa np pc) ∧ w'.cell? ⟨gz, 1, none⟩ = some (.slice ca CS.length cc) ∧ w'.cell? ⟨w.heap.size, 0, none⟩ = some (.string x.player)) from fun w' hb => ⟨hb, below_cell hb z0, below_cell hb z1, below_cell hb x0⟩)
     have hbd := (Below.refl w5.heap.size w5).drew; clear x0 z0 z1 hx5 hZ5 hZo hZ hC hCa hw5 hgq hgz hfz HS hg5; go_upto_region 5 with fail
     show Code.wp _ (Code.region 5 o43_5 true) _ _ _
     refine region_start 10 (fun w' => Below w5.heap.size w5 w' ∧ w'.cell? ⟨gz, 0, none⟩ = some (.slice pa np pc) ∧ w'.cell? ⟨gz, 1, none⟩ = some (.slice ca CS.length cc) ∧ w'.cell? ⟨w.heap.size, 0, none⟩ = some (.string x.player)) (by kernel_rfl) rfl ?_ (fun hHeld => ?_)
     ·(exact HT.out _ (by first | exact hbd | exact hHeld.1 | exact below_step hHeld.1 (by assumption)))
     refine take_to 0 38 (bQ 10 1) (v := ?_) o43_5_0 rfl o43_5_ns (by kernel_rfl) (by kernel_rfl) (fun _ _ _ h => h) (by rfl) ?y0t (by assumption) ?_
     case y0t => intro w h; (try dsimp only at h); go_simp; try with_reducible rfl
     simp only [sE0, sE1]; refine take_to 2 40 (bQ 10 5) (v := ?_) o43_5_2 rfl o43_5_ns (by kernel_rfl) (by kernel_rfl) (fun _ _ _ h => h) (by rfl) ?y2t (by assumption) ?_
     case y2t => intro w h; (try dsimp only at h); go_simp; try with_reducible rfl
     simp only [sE0, sE1]; refine take_to 3 41 (bQ 10 13) (v := ?_) o43_5_3 rfl o43_5_ns (by kernel_rfl) (by kernel_rfl) (fun _ _ _ h => h) (by rfl) ?y3t (by assumption) ?_
     case y3t => intro w h; (try dsimp only at h); go_simp; try with_reducible rfl
     simp only [sE0, sE1]; refine take_to 4 42 (bQ 10 29) (v := ?_) o43_5_4 rfl o43_5_ns (by kernel_rfl) (by kernel_rfl) (fun _ _ _ h => h) (by rfl) ?y4t (by assumption) ?_
     case y4t => intro w h; (try dsimp only at h); go_simp; try with_reducible rfl
     simp only [sE0, sE1]; refine run_to 1 (bQ 10 31) o43_5_1 (by kernel_rfl) (by kernel_rfl) (by rfl) (fun K hK => ?_)
     go_simp; refine (DM.out _ (below_step hb5 hHeld.1) _ _ (hC5.below hHeld.1)).mono ?_; rintro e w' ⟨rfl, hbh⟩; go_wp2_with fail
     refine hK.out _ _ ?_ (fun hHeld => ?_)
     ·(exact HT.out _ (by first | exact hbd | exact hHeld.1 | exact below_step hHeld.1 (by assumption)))
     clear hK K; try simp only [Act.put, sEt, sE0, sE1]
     refine run_to 5 (bQ 10 63) o43_5_5 (by kernel_rfl) (by kernel_rfl) (by rfl) (fun K hK => ?_)
     go_simp; refine (but_calls _ _).mono ?_; rintro e w' ⟨rfl, hbh, hcap⟩; go_wp2_with fail
     refine hK.out _ _ ?_ (fun hHeld => ?_)
     ·(exact HT.out _ (by first | exact hbd | exact hHeld.1 | exact below_step hHeld.1 (by assumption)))
     clear hK K; try simp only [Act.put, sEt, sE0, sE1]
     refine run_to 6 (bQ 10 127) o43_5_6 (by kernel_rfl) (by kernel_rfl) (by rfl) (fun K hK => ?_)
     go_simp; refine (DB.out _ (below_step hb5 hHeld.1) _ _ (hC5.below hHeld.1) _ hcap).mono ?_; rintro e w' ⟨rfl, hbh⟩; go_wp2_with fail
     refine hK.out _ _ ?_ (fun hHeld => ?_)
     ·(exact HT.out _ (by first | exact hbd | exact hHeld.1 | exact below_step hHeld.1 (by assumption)))
     clear hK K; try simp only [Act.put, sEt, sE0, sE1]
     refine take_to 7 45 (bQ 10 255) (v := ?_) o43_5_7 rfl o43_5_ns (by kernel_rfl) (by kernel_rfl) (fun _ _ _ h => h) (by rfl) ?y7t (by assumption) ?_
     case y7t => intro w h; (try dsimp only at h); go_simp; try with_reducible rfl
     simp only [sE0, sE1]; refine take_to 8 6 (bQ 10 511) (v := ?_) o43_5_8 rfl o43_5_ns (by kernel_rfl) (by kernel_rfl) (fun _ _ _ h => h) (by rfl) ?y8t (by assumption) ?_
     case y8t => intro w h; (try dsimp only at h); go_simp; try with_reducible rfl
     simp only [sE0, sE1]; refine take_to 9 7 (bQ 10 1023) (v := ?_) o43_5_9 rfl o43_5_ns (by kernel_rfl) (by kernel_rfl) (fun _ _ _ h => h) (by rfl) ?y9t (by assumption) ?_
     case y9t => intro w h; (try dsimp only at h); go_simp; try with_reducible rfl
     simp only [sE0, sE1]; refine wpAnyH_done (by kernel_rfl) ?_ _
     have hbe := below_step hb5 hHeld.1; clear hHeld HT hbd; go_wp2_with fail
     go_ret2
     exact ⟨by show Ending.returned (.tuple #[.int .i64 (IntKind.i64.wrap (M1 - M2)), .int .i64 0]) = _; rw [show IntKind.i64.wrap (M1 - M2) = M1 - M2 from wrap_subG hm1 hm2 hm3 hm4], hbe⟩
   ·have hZ := heap_alloc_new wc (.cells #[.slice none 0 0, .slice none 0 0] 142)
    have hbn := below_alloc wc (.cells #[.slice none 0 0, .slice none 0 0] 142); have hgz := hC.1.size; go_simp; obtain ⟨wn, hwn⟩ : ∃ wn, wc.alloc (.cells #[.slice none 0 0, .slice none 0 0] 142) = wn := ⟨_, rfl⟩
    rw [hwn] at hZ hbn ⊢
    clear hwn; replace hC := HS.out _ (below_step hC.1 hbn); try replace hN := news_below hbn hN
    try replace hown := own_belowG hown hbn
    try replace hownF := own_belowG hownF hbn
    try replace hCa := hCa.below hbn
    clear hbn; obtain ⟨wc, rfl⟩ : ∃ wc, wc = wn := ⟨_, rfl⟩
    refine hK.out _ _ (fun _ => ?_) ?_
    ·(exact hC)
    clear hK K; try simp only [Act.put, sEt, sE0, sE1]
    refine readyC (rs := [3]) (by kernel_rfl) (by simp) (each_cons (runC o43_4_3 (by rfl) (fun K hK => ?_)) each_nil)
    have hN := cells_newG wc [.string x.player, .string x.pos, .int .i64 x.value] 78; have hbn := below_alloc wc (.cells #[.string x.player, .string x.pos, .int .i64 x.value] 78); go_simp; obtain ⟨wn, hwn⟩ : ∃ wn, wc.alloc (.cells #[.string x.player, .string x.pos, .int .i64 x.value] 78) = wn := ⟨_, rfl⟩
    rw [hwn] at hN hbn ⊢
    clear hwn; replace hC := HS.out _ (below_step hC.1 hbn); try replace hZ := cells_later hZ hbn
    try replace hown := own_belowG hown hbn
    try replace hownF := own_belowG hownF hbn
    try replace hCa := hCa.below hbn
    clear hbn; obtain ⟨wc, rfl⟩ : ∃ wc, wc = wn := ⟨_, rfl⟩
    refine hK.out _ _ (fun _ => ?_) ?_
    ·(exact hC)
    clear hK K; try simp only [Act.put, sEt, sE0, sE1]
    refine readyC (rs := [4]) (by kernel_rfl) (by simp) (each_cons (runC o43_4_4 (by rfl) (fun K hK => ?_)) each_nil)
    refine wp_append_at _ (.tmp 32) (.tmp 34) 52 rfl W.heap.size 78 i0 (.agg #[.string ⟨#[]⟩, .string ⟨#[]⟩, .int .i64 0]) 3 40 Tryz.underlying52 hi hz0 hz1 hz2 rfl (by decide) v1 xs.length _ rfl hown _ 1 1 [.string x.player, .string x.pos, .int .i64 x.value] rfl rfl hN (by simp [Value.oneCell']) (by unfold maxLen; omega) (by omega) hC.1.size ?_
    intro v2 w2 hown2 hgrow; have hCb := HS.out _ (hC.1.grown hgrow hC.1.size fun r hr => (own_block hown r hr).1)
    try replace hZ := (hgrow.block _ (lt_of_heap hZ) (fun e => by obtain ⟨_, cur, hc⟩ := own_block hown _ e.symm; rw [hZ] at hc; simp at hc)).trans hZ
    have hownF : OwnAs w2 W.heap.size v2 (xs ++ [x]) := by
     unfold OwnAs; have e : ((xs ++ [x]).map asRow).flatten = (xs.map asRow).flatten ++ [.string x.player, .string x.pos, .int .i64 x.value] := by simp [asRow]
     rw [e, List.length_append]; exact hown2
    clear hgrow hown hC hN hown2; have hC := hCb; clear hCb; obtain ⟨wc, rfl⟩ : ∃ wc, wc = w2 := ⟨_, rfl⟩
    refine hK.out _ _ (fun h => absurd h (by decide)) ?_
    clear hK K; try simp only [Act.put, sEt, sE0, sE1]
    refine readyC (rs := [6]) (by kernel_rfl) (by simp) (each_cons (runC o43_4_6 (by rfl) (fun K hK => ?_)) each_nil)
    go_simp; have hFr := fresh_own hownF; refine (DP.out _ hC.1 _ _ (hFr.ass (by simp; omega))).mono ?_
    rintro e w2 ⟨cv, rfl, hCa, hbc⟩; obtain ⟨wc, rfl⟩ : ∃ wc, wc = w2 := ⟨_, rfl⟩
    clear hFr hownF; obtain ⟨ca, cc, rfl⟩ := ca_shape hCa; replace hC := HS.out _ (below_step hC.1 hbc); try replace hZ := cells_later hZ hbc
    go_wp2_with fail
    refine hK.out _ _ (fun _ => ?_) ?_
    ·(exact hC)
    clear hK K; try simp only [Act.put, sEt, sE0, sE1]
    refine readyC (rs := [8]) (by kernel_rfl) (by simp) (each_cons (runC o43_4_8 (by rfl) (fun K hK => ?_)) each_nil)
    have hfz := fun o => frozen_ofG hZ o
    have z0 := cell_at hZ 0 rfl; have z1 := cell_at hZ 1 rfl; go_simp; refine hK.out _ _ (fun h => absurd h (by decide)) ?_
    clear hK K; try simp only [sEt, sE0, sE1]
    refine doneC (by kernel_rfl) ?_ _
    obtain ⟨gz, w5, hgq, hw5, hZo, hZ5, hg5, hgl⟩ := pool_put hZ hgz (.slice pa np pc) (.slice ca CS.length cc); rw [hgq]; rw [← hw5]; have hC5 : Cas w5 0 (.slice ca CS.length cc) CS := Cas.mono (show Cas w5 _ _ CS from Rows.row hCa hg5 (fun r hr => by cases hr; exact ⟨_, _, _, hZo, by decide⟩)) (Nat.zero_le _)
    have hb5 : Below w.heap.size w w5 := below_gbG (below_step HwW.out hC.1) hg5 (by have := HwW.out.size; omega)
    have hx5 := heap_gbG hC.2.2.2.2 hg5 (by have := HWs.out; omega)
    have x0 := cell_at hx5 0 rfl; have z0 := cell_at hZ5 0 rfl; have z1 := cell_at hZ5 1 rfl; have HT := Lib.hid (show ∀ w', Below w5.heap.size w5 w' → (Below w5.heap.size w5 w' ∧ w'.cell? ⟨gz, 0, none⟩ = some (.slice pa np pc) ∧ w'.cell? ⟨gz, 1, none⟩ = some (.slice ca CS.length cc) ∧ w'.cell? ⟨w.heap.size, 0, none⟩ = some (.string x.player)) from fun w' hb => ⟨hb, below_cell hb z0, below_cell hb z1, below_cell hb x0⟩)
    have hbd := (Below.refl w5.heap.size w5).drew; clear x0 z0 z1 hx5 hZ5 hZo hZ hC hCa hw5 hgq hgz hfz HS hg5; go_upto_region 5 with fail
    show Code.wp _ (Code.region 5 o43_5 true) _ _ _
    refine region_start 10 (fun w' => Below w5.heap.size w5 w' ∧ w'.cell? ⟨gz, 0, none⟩ = some (.slice pa np pc) ∧ w'.cell? ⟨gz, 1, none⟩ = some (.slice ca CS.length cc) ∧ w'.cell? ⟨w.heap.size, 0, none⟩ = some (.string x.player)) (by kernel_rfl) rfl ?_ (fun hHeld => ?_)
    ·(exact HT.out _ (by first | exact hbd | exact hHeld.1 | exact below_step hHeld.1 (by assumption)))
    refine take_to 0 38 (bQ 10 1) (v := ?_) o43_5_0 rfl o43_5_ns (by kernel_rfl) (by kernel_rfl) (fun _ _ _ h => h) (by rfl) ?y0t (by assumption) ?_
    case y0t => intro w h; (try dsimp only at h); go_simp; try with_reducible rfl
    simp only [sE0, sE1]; refine take_to 2 40 (bQ 10 5) (v := ?_) o43_5_2 rfl o43_5_ns (by kernel_rfl) (by kernel_rfl) (fun _ _ _ h => h) (by rfl) ?y2t (by assumption) ?_
    case y2t => intro w h; (try dsimp only at h); go_simp; try with_reducible rfl
    simp only [sE0, sE1]; refine take_to 3 41 (bQ 10 13) (v := ?_) o43_5_3 rfl o43_5_ns (by kernel_rfl) (by kernel_rfl) (fun _ _ _ h => h) (by rfl) ?y3t (by assumption) ?_
    case y3t => intro w h; (try dsimp only at h); go_simp; try with_reducible rfl
    simp only [sE0, sE1]; refine take_to 4 42 (bQ 10 29) (v := ?_) o43_5_4 rfl o43_5_ns (by kernel_rfl) (by kernel_rfl) (fun _ _ _ h => h) (by rfl) ?y4t (by assumption) ?_
    case y4t => intro w h; (try dsimp only at h); go_simp; try with_reducible rfl
    simp only [sE0, sE1]; refine run_to 1 (bQ 10 31) o43_5_1 (by kernel_rfl) (by kernel_rfl) (by rfl) (fun K hK => ?_)
    go_simp; refine (DM.out _ (below_step hb5 hHeld.1) _ _ (hC5.below hHeld.1)).mono ?_; rintro e w' ⟨rfl, hbh⟩; go_wp2_with fail
    refine hK.out _ _ ?_ (fun hHeld => ?_)
    ·(exact HT.out _ (by first | exact hbd | exact hHeld.1 | exact below_step hHeld.1 (by assumption)))
    clear hK K; try simp only [Act.put, sEt, sE0, sE1]
    refine run_to 5 (bQ 10 63) o43_5_5 (by kernel_rfl) (by kernel_rfl) (by rfl) (fun K hK => ?_)
    go_simp; refine (but_calls _ _).mono ?_; rintro e w' ⟨rfl, hbh, hcap⟩; go_wp2_with fail
    refine hK.out _ _ ?_ (fun hHeld => ?_)
    ·(exact HT.out _ (by first | exact hbd | exact hHeld.1 | exact below_step hHeld.1 (by assumption)))
    clear hK K; try simp only [Act.put, sEt, sE0, sE1]
    refine run_to 6 (bQ 10 127) o43_5_6 (by kernel_rfl) (by kernel_rfl) (by rfl) (fun K hK => ?_)
    go_simp; refine (DB.out _ (below_step hb5 hHeld.1) _ _ (hC5.below hHeld.1) _ hcap).mono ?_; rintro e w' ⟨rfl, hbh⟩; go_wp2_with fail
    refine hK.out _ _ ?_ (fun hHeld => ?_)
    ·(exact HT.out _ (by first | exact hbd | exact hHeld.1 | exact below_step hHeld.1 (by assumption)))
    clear hK K; try simp only [Act.put, sEt, sE0, sE1]
    refine take_to 7 45 (bQ 10 255) (v := ?_) o43_5_7 rfl o43_5_ns (by kernel_rfl) (by kernel_rfl) (fun _ _ _ h => h) (by rfl) ?y7t (by assumption) ?_
    case y7t => intro w h; (try dsimp only at h); go_simp; try with_reducible rfl
    simp only [sE0, sE1]; refine take_to 8 6 (bQ 10 511) (v := ?_) o43_5_8 rfl o43_5_ns (by kernel_rfl) (by kernel_rfl) (fun _ _ _ h => h) (by rfl) ?y8t (by assumption) ?_
    case y8t => intro w h; (try dsimp only at h); go_simp; try with_reducible rfl
    simp only [sE0, sE1]; refine take_to 9 7 (bQ 10 1023) (v := ?_) o43_5_9 rfl o43_5_ns (by kernel_rfl) (by kernel_rfl) (fun _ _ _ h => h) (by rfl) ?y9t (by assumption) ?_
    case y9t => intro w h; (try dsimp only at h); go_simp; try with_reducible rfl
    simp only [sE0, sE1]; refine wpAnyH_done (by kernel_rfl) ?_ _
    have hbe := below_step hb5 hHeld.1; clear hHeld HT hbd; go_wp2_with fail
    go_ret2
    exact ⟨by show Ending.returned (.tuple #[.int .i64 (IntKind.i64.wrap (M1 - M2)), .int .i64 0]) = _; rw [show IntKind.i64.wrap (M1 - M2) = M1 - M2 from wrap_subG hm1 hm2 hm3 hm4], hbe⟩
  ·have hN := cells_newG wc [.string x.player, .string x.pos, .int .i64 x.value] 78
   have hbn := below_alloc wc (.cells #[.string x.player, .string x.pos, .int .i64 x.value] 78); go_simp; obtain ⟨wn, hwn⟩ : ∃ wn, wc.alloc (.cells #[.string x.player, .string x.pos, .int .i64 x.value] 78) = wn := ⟨_, rfl⟩
   rw [hwn] at hN hbn ⊢
   clear hwn; replace hC := HS.out _ (below_step hC.1 hbn); try replace hZ := cells_later hZ hbn
   try replace hown := own_belowG hown hbn
   try replace hownF := own_belowG hownF hbn
   try replace hCa := hCa.below hbn
   clear hbn; obtain ⟨wc, rfl⟩ : ∃ wc, wc = wn := ⟨_, rfl⟩
   refine hK.out _ _ (fun _ => ?_) ?_
   ·(exact hC)
   clear hK K; try simp only [Act.put, sEt, sE0, sE1]
   refine readyC (rs := [1, 7]) (by kernel_rfl) (by simp) (each_cons (runC o43_4_1 (by rfl) (fun K hK => ?_)) (each_cons (runC o43_4_7 (by rfl) (fun K hK => ?_)) each_nil))
   ·go_simp
    refine (C.out _ hC.1).mono ?_; rintro e w2 ⟨v1, hown, rfl, hbc⟩; replace hown := World.ownsRow.mono hown hC.1.size; obtain ⟨wc, rfl⟩ : ∃ wc, wc = w2 := ⟨_, rfl⟩
    replace hC := HS.out _ (below_step hC.1 hbc); try replace hZ := cells_later hZ hbc
    try replace hN := news_below hbc hN
    try replace hown2 := own_belowG hown2 hbc
    try replace hCa := hCa.below hbc
    go_wp2_with fail
    refine hK.out _ _ (fun _ => ?_) ?_
    ·(exact hC)
    clear hK K; try simp only [Act.put, sEt, sE0, sE1]
    refine readyC (rs := [4, 7]) (by kernel_rfl) (by simp) (each_cons (runC o43_4_4 (by rfl) (fun K hK => ?_)) (each_cons (runC o43_4_7 (by rfl) (fun K hK => ?_)) each_nil))
    ·refine wp_append_at _ (.tmp 32) (.tmp 34) 52 rfl W.heap.size 78 i0 (.agg #[.string ⟨#[]⟩, .string ⟨#[]⟩, .int .i64 0]) 3 40 Tryz.underlying52 hi hz0 hz1 hz2 rfl (by decide) v1 xs.length _ rfl hown _ 1 1 [.string x.player, .string x.pos, .int .i64 x.value] rfl rfl hN (by simp [Value.oneCell']) (by unfold maxLen; omega) (by omega) hC.1.size ?_
     intro v2 w2 hown2 hgrow; have hCb := HS.out _ (hC.1.grown hgrow hC.1.size fun r hr => (own_block hown r hr).1)
     try replace hZ := (hgrow.block _ (lt_of_heap hZ) (fun e => by obtain ⟨_, cur, hc⟩ := own_block hown _ e.symm; rw [hZ] at hc; simp at hc)).trans hZ
     have hownF : OwnAs w2 W.heap.size v2 (xs ++ [x]) := by
      unfold OwnAs; have e : ((xs ++ [x]).map asRow).flatten = (xs.map asRow).flatten ++ [.string x.player, .string x.pos, .int .i64 x.value] := by simp [asRow]
      rw [e, List.length_append]; exact hown2
     clear hgrow hown hC hN hown2; have hC := hCb; clear hCb; obtain ⟨wc, rfl⟩ : ∃ wc, wc = w2 := ⟨_, rfl⟩
     refine hK.out _ _ (fun h => absurd h (by decide)) ?_
     clear hK K; try simp only [Act.put, sEt, sE0, sE1]
     refine readyC (rs := [6, 7]) (by kernel_rfl) (by simp) (each_cons (runC o43_4_6 (by rfl) (fun K hK => ?_)) (each_cons (runC o43_4_7 (by rfl) (fun K hK => ?_)) each_nil))
     ·go_simp
      have hFr := fresh_own hownF; refine (DP.out _ hC.1 _ _ (hFr.ass (by simp; omega))).mono ?_
      rintro e w2 ⟨cv, rfl, hCa, hbc⟩; obtain ⟨wc, rfl⟩ : ∃ wc, wc = w2 := ⟨_, rfl⟩
      clear hFr hownF; obtain ⟨ca, cc, rfl⟩ := ca_shape hCa; replace hC := HS.out _ (below_step hC.1 hbc); try replace hZ := cells_later hZ hbc
      go_wp2_with fail
      refine hK.out _ _ (fun _ => ?_) ?_
      ·(exact hC)
      clear hK K; try simp only [Act.put, sEt, sE0, sE1]
      refine readyC (rs := [7]) (by kernel_rfl) (by simp) (each_cons (runC o43_4_7 (by rfl) (fun K hK => ?_)) each_nil)
      have hZ := heap_alloc_new wc (.cells #[.slice none 0 0, .slice none 0 0] 142); have hbn := below_alloc wc (.cells #[.slice none 0 0, .slice none 0 0] 142); have hgz := hC.1.size; go_simp; obtain ⟨wn, hwn⟩ : ∃ wn, wc.alloc (.cells #[.slice none 0 0, .slice none 0 0] 142) = wn := ⟨_, rfl⟩
      rw [hwn] at hZ hbn ⊢
      clear hwn; replace hC := HS.out _ (below_step hC.1 hbn); try replace hN := news_below hbn hN
      try replace hown := own_belowG hown hbn
      try replace hownF := own_belowG hownF hbn
      try replace hCa := hCa.below hbn
      clear hbn; obtain ⟨wc, rfl⟩ : ∃ wc, wc = wn := ⟨_, rfl⟩
      refine hK.out _ _ (fun _ => ?_) ?_
      ·(exact hC)
      clear hK K; try simp only [Act.put, sEt, sE0, sE1]
      refine readyC (rs := [8]) (by kernel_rfl) (by simp) (each_cons (runC o43_4_8 (by rfl) (fun K hK => ?_)) each_nil)
      have hfz := fun o => frozen_ofG hZ o
      have z0 := cell_at hZ 0 rfl; have z1 := cell_at hZ 1 rfl; go_simp; refine hK.out _ _ (fun h => absurd h (by decide)) ?_
      clear hK K; try simp only [sEt, sE0, sE1]
      refine doneC (by kernel_rfl) ?_ _
      obtain ⟨gz, w5, hgq, hw5, hZo, hZ5, hg5, hgl⟩ := pool_put hZ hgz (.slice pa np pc) (.slice ca CS.length cc); rw [hgq]; rw [← hw5]; have hC5 : Cas w5 0 (.slice ca CS.length cc) CS := Cas.mono (show Cas w5 _ _ CS from Rows.row hCa hg5 (fun r hr => by cases hr; exact ⟨_, _, _, hZo, by decide⟩)) (Nat.zero_le _)
      have hb5 : Below w.heap.size w w5 := below_gbG (below_step HwW.out hC.1) hg5 (by have := HwW.out.size; omega)
      have hx5 := heap_gbG hC.2.2.2.2 hg5 (by have := HWs.out; omega)
      have x0 := cell_at hx5 0 rfl; have z0 := cell_at hZ5 0 rfl; have z1 := cell_at hZ5 1 rfl; have HT := Lib.hid (show ∀ w', Below w5.heap.size w5 w' → (Below w5.heap.size w5 w' ∧ w'.cell? ⟨gz, 0, none⟩ = some (.slice pa np pc) ∧ w'.cell? ⟨gz, 1, none⟩ = some (.slice ca CS.length cc) ∧ w'.cell? ⟨w.heap.size, 0, none⟩ = some (.string x.player)) from fun w' hb => ⟨hb, below_cell hb z0, below_cell hb z1, below_cell hb x0⟩)
      have hbd := (Below.refl w5.heap.size w5).drew; clear x0 z0 z1 hx5 hZ5 hZo hZ hC hCa hw5 hgq hgz hfz HS hg5; go_upto_region 5 with fail
      show Code.wp _ (Code.region 5 o43_5 true) _ _ _
      refine region_start 10 (fun w' => Below w5.heap.size w5 w' ∧ w'.cell? ⟨gz, 0, none⟩ = some (.slice pa np pc) ∧ w'.cell? ⟨gz, 1, none⟩ = some (.slice ca CS.length cc) ∧ w'.cell? ⟨w.heap.size, 0, none⟩ = some (.string x.player)) (by kernel_rfl) rfl ?_ (fun hHeld => ?_)
      ·(exact HT.out _ (by first | exact hbd | exact hHeld.1 | exact below_step hHeld.1 (by assumption)))
      refine take_to 0 38 (bQ 10 1) (v := ?_) o43_5_0 rfl o43_5_ns (by kernel_rfl) (by kernel_rfl) (fun _ _ _ h => h) (by rfl) ?y0t (by assumption) ?_
      case y0t => intro w h; (try dsimp only at h); go_simp; try with_reducible rfl
      simp only [sE0, sE1]; refine take_to 2 40 (bQ 10 5) (v := ?_) o43_5_2 rfl o43_5_ns (by kernel_rfl) (by kernel_rfl) (fun _ _ _ h => h) (by rfl) ?y2t (by assumption) ?_
      case y2t => intro w h; (try dsimp only at h); go_simp; try with_reducible rfl
      simp only [sE0, sE1]; refine take_to 3 41 (bQ 10 13) (v := ?_) o43_5_3 rfl o43_5_ns (by kernel_rfl) (by kernel_rfl) (fun _ _ _ h => h) (by rfl) ?y3t (by assumption) ?_
      case y3t => intro w h; (try dsimp only at h); go_simp; try with_reducible rfl
      simp only [sE0, sE1]; refine take_to 4 42 (bQ 10 29) (v := ?_) o43_5_4 rfl o43_5_ns (by kernel_rfl) (by kernel_rfl) (fun _ _ _ h => h) (by rfl) ?y4t (by assumption) ?_
      case y4t => intro w h; (try dsimp only at h); go_simp; try with_reducible rfl
      simp only [sE0, sE1]; refine run_to 1 (bQ 10 31) o43_5_1 (by kernel_rfl) (by kernel_rfl) (by rfl) (fun K hK => ?_)
      go_simp; refine (DM.out _ (below_step hb5 hHeld.1) _ _ (hC5.below hHeld.1)).mono ?_; rintro e w' ⟨rfl, hbh⟩; go_wp2_with fail
      refine hK.out _ _ ?_ (fun hHeld => ?_)
      ·(exact HT.out _ (by first | exact hbd | exact hHeld.1 | exact below_step hHeld.1 (by assumption)))
      clear hK K; try simp only [Act.put, sEt, sE0, sE1]
      refine run_to 5 (bQ 10 63) o43_5_5 (by kernel_rfl) (by kernel_rfl) (by rfl) (fun K hK => ?_)
      go_simp; refine (but_calls _ _).mono ?_; rintro e w' ⟨rfl, hbh, hcap⟩; go_wp2_with fail
      refine hK.out _ _ ?_ (fun hHeld => ?_)
      ·(exact HT.out _ (by first | exact hbd | exact hHeld.1 | exact below_step hHeld.1 (by assumption)))
      clear hK K; try simp only [Act.put, sEt, sE0, sE1]
      refine run_to 6 (bQ 10 127) o43_5_6 (by kernel_rfl) (by kernel_rfl) (by rfl) (fun K hK => ?_)
      go_simp; refine (DB.out _ (below_step hb5 hHeld.1) _ _ (hC5.below hHeld.1) _ hcap).mono ?_; rintro e w' ⟨rfl, hbh⟩; go_wp2_with fail
      refine hK.out _ _ ?_ (fun hHeld => ?_)
      ·(exact HT.out _ (by first | exact hbd | exact hHeld.1 | exact below_step hHeld.1 (by assumption)))
      clear hK K; try simp only [Act.put, sEt, sE0, sE1]
      refine take_to 7 45 (bQ 10 255) (v := ?_) o43_5_7 rfl o43_5_ns (by kernel_rfl) (by kernel_rfl) (fun _ _ _ h => h) (by rfl) ?y7t (by assumption) ?_
      case y7t => intro w h; (try dsimp only at h); go_simp; try with_reducible rfl
      simp only [sE0, sE1]; refine take_to 8 6 (bQ 10 511) (v := ?_) o43_5_8 rfl o43_5_ns (by kernel_rfl) (by kernel_rfl) (fun _ _ _ h => h) (by rfl) ?y8t (by assumption) ?_
      case y8t => intro w h; (try dsimp only at h); go_simp; try with_reducible rfl
      simp only [sE0, sE1]; refine take_to 9 7 (bQ 10 1023) (v := ?_) o43_5_9 rfl o43_5_ns (by kernel_rfl) (by kernel_rfl) (fun _ _ _ h => h) (by rfl) ?y9t (by assumption) ?_
      case y9t => intro w h; (try dsimp only at h); go_simp; try with_reducible rfl
      simp only [sE0, sE1]; refine wpAnyH_done (by kernel_rfl) ?_ _
      have hbe := below_step hb5 hHeld.1; clear hHeld HT hbd; go_wp2_with fail
      go_ret2
      exact ⟨by show Ending.returned (.tuple #[.int .i64 (IntKind.i64.wrap (M1 - M2)), .int .i64 0]) = _; rw [show IntKind.i64.wrap (M1 - M2) = M1 - M2 from wrap_subG hm1 hm2 hm3 hm4], hbe⟩
     ·have hZ := heap_alloc_new wc (.cells #[.slice none 0 0, .slice none 0 0] 142)
      have hbn := below_alloc wc (.cells #[.slice none 0 0, .slice none 0 0] 142); have hgz := hC.1.size; go_simp; obtain ⟨wn, hwn⟩ : ∃ wn, wc.alloc (.cells #[.slice none 0 0, .slice none 0 0] 142) = wn := ⟨_, rfl⟩
      rw [hwn] at hZ hbn ⊢
      clear hwn; replace hC := HS.out _ (below_step hC.1 hbn); try replace hN := news_below hbn hN
      try replace hown := own_belowG hown hbn
      try replace hownF := own_belowG hownF hbn
      try replace hCa := hCa.below hbn
      clear hbn; obtain ⟨wc, rfl⟩ : ∃ wc, wc = wn := ⟨_, rfl⟩
      refine hK.out _ _ (fun _ => ?_) ?_
      ·(exact hC)
      clear hK K; try simp only [Act.put, sEt, sE0, sE1]
      refine readyC (rs := [6]) (by kernel_rfl) (by simp) (each_cons (runC o43_4_6 (by rfl) (fun K hK => ?_)) each_nil)
      go_simp; have hFr := fresh_own hownF; refine (DP.out _ hC.1 _ _ (hFr.ass (by simp; omega))).mono ?_
      rintro e w2 ⟨cv, rfl, hCa, hbc⟩; obtain ⟨wc, rfl⟩ : ∃ wc, wc = w2 := ⟨_, rfl⟩
      clear hFr hownF; obtain ⟨ca, cc, rfl⟩ := ca_shape hCa; replace hC := HS.out _ (below_step hC.1 hbc); try replace hZ := cells_later hZ hbc
      go_wp2_with fail
      refine hK.out _ _ (fun _ => ?_) ?_
      ·(exact hC)
      clear hK K; try simp only [Act.put, sEt, sE0, sE1]
      refine readyC (rs := [8]) (by kernel_rfl) (by simp) (each_cons (runC o43_4_8 (by rfl) (fun K hK => ?_)) each_nil)
      have hfz := fun o => frozen_ofG hZ o
      have z0 := cell_at hZ 0 rfl; have z1 := cell_at hZ 1 rfl; go_simp; refine hK.out _ _ (fun h => absurd h (by decide)) ?_
      clear hK K; try simp only [sEt, sE0, sE1]
      refine doneC (by kernel_rfl) ?_ _
      obtain ⟨gz, w5, hgq, hw5, hZo, hZ5, hg5, hgl⟩ := pool_put hZ hgz (.slice pa np pc) (.slice ca CS.length cc); rw [hgq]; rw [← hw5]; have hC5 : Cas w5 0 (.slice ca CS.length cc) CS := Cas.mono (show Cas w5 _ _ CS from Rows.row hCa hg5 (fun r hr => by cases hr; exact ⟨_, _, _, hZo, by decide⟩)) (Nat.zero_le _)
      have hb5 : Below w.heap.size w w5 := below_gbG (below_step HwW.out hC.1) hg5 (by have := HwW.out.size; omega)
      have hx5 := heap_gbG hC.2.2.2.2 hg5 (by have := HWs.out; omega)
      have x0 := cell_at hx5 0 rfl; have z0 := cell_at hZ5 0 rfl; have z1 := cell_at hZ5 1 rfl; have HT := Lib.hid (show ∀ w', Below w5.heap.size w5 w' → (Below w5.heap.size w5 w' ∧ w'.cell? ⟨gz, 0, none⟩ = some (.slice pa np pc) ∧ w'.cell? ⟨gz, 1, none⟩ = some (.slice ca CS.length cc) ∧ w'.cell? ⟨w.heap.size, 0, none⟩ = some (.string x.player)) from fun w' hb => ⟨hb, below_cell hb z0, below_cell hb z1, below_cell hb x0⟩)
      have hbd := (Below.refl w5.heap.size w5).drew; clear x0 z0 z1 hx5 hZ5 hZo hZ hC hCa hw5 hgq hgz hfz HS hg5; go_upto_region 5 with fail
      show Code.wp _ (Code.region 5 o43_5 true) _ _ _
      refine region_start 10 (fun w' => Below w5.heap.size w5 w' ∧ w'.cell? ⟨gz, 0, none⟩ = some (.slice pa np pc) ∧ w'.cell? ⟨gz, 1, none⟩ = some (.slice ca CS.length cc) ∧ w'.cell? ⟨w.heap.size, 0, none⟩ = some (.string x.player)) (by kernel_rfl) rfl ?_ (fun hHeld => ?_)
      ·(exact HT.out _ (by first | exact hbd | exact hHeld.1 | exact below_step hHeld.1 (by assumption)))
      refine take_to 0 38 (bQ 10 1) (v := ?_) o43_5_0 rfl o43_5_ns (by kernel_rfl) (by kernel_rfl) (fun _ _ _ h => h) (by rfl) ?y0t (by assumption) ?_
      case y0t => intro w h; (try dsimp only at h); go_simp; try with_reducible rfl
      simp only [sE0, sE1]; refine take_to 2 40 (bQ 10 5) (v := ?_) o43_5_2 rfl o43_5_ns (by kernel_rfl) (by kernel_rfl) (fun _ _ _ h => h) (by rfl) ?y2t (by assumption) ?_
      case y2t => intro w h; (try dsimp only at h); go_simp; try with_reducible rfl
      simp only [sE0, sE1]; refine take_to 3 41 (bQ 10 13) (v := ?_) o43_5_3 rfl o43_5_ns (by kernel_rfl) (by kernel_rfl) (fun _ _ _ h => h) (by rfl) ?y3t (by assumption) ?_
      case y3t => intro w h; (try dsimp only at h); go_simp; try with_reducible rfl
      simp only [sE0, sE1]; refine take_to 4 42 (bQ 10 29) (v := ?_) o43_5_4 rfl o43_5_ns (by kernel_rfl) (by kernel_rfl) (fun _ _ _ h => h) (by rfl) ?y4t (by assumption) ?_
      case y4t => intro w h; (try dsimp only at h); go_simp; try with_reducible rfl
      simp only [sE0, sE1]; refine run_to 1 (bQ 10 31) o43_5_1 (by kernel_rfl) (by kernel_rfl) (by rfl) (fun K hK => ?_)
      go_simp; refine (DM.out _ (below_step hb5 hHeld.1) _ _ (hC5.below hHeld.1)).mono ?_; rintro e w' ⟨rfl, hbh⟩; go_wp2_with fail
      refine hK.out _ _ ?_ (fun hHeld => ?_)
      ·(exact HT.out _ (by first | exact hbd | exact hHeld.1 | exact below_step hHeld.1 (by assumption)))
      clear hK K; try simp only [Act.put, sEt, sE0, sE1]
      refine run_to 5 (bQ 10 63) o43_5_5 (by kernel_rfl) (by kernel_rfl) (by rfl) (fun K hK => ?_)
      go_simp; refine (but_calls _ _).mono ?_; rintro e w' ⟨rfl, hbh, hcap⟩; go_wp2_with fail
      refine hK.out _ _ ?_ (fun hHeld => ?_)
      ·(exact HT.out _ (by first | exact hbd | exact hHeld.1 | exact below_step hHeld.1 (by assumption)))
      clear hK K; try simp only [Act.put, sEt, sE0, sE1]
      refine run_to 6 (bQ 10 127) o43_5_6 (by kernel_rfl) (by kernel_rfl) (by rfl) (fun K hK => ?_)
      go_simp; refine (DB.out _ (below_step hb5 hHeld.1) _ _ (hC5.below hHeld.1) _ hcap).mono ?_; rintro e w' ⟨rfl, hbh⟩; go_wp2_with fail
      refine hK.out _ _ ?_ (fun hHeld => ?_)
      ·(exact HT.out _ (by first | exact hbd | exact hHeld.1 | exact below_step hHeld.1 (by assumption)))
      clear hK K; try simp only [Act.put, sEt, sE0, sE1]
      refine take_to 7 45 (bQ 10 255) (v := ?_) o43_5_7 rfl o43_5_ns (by kernel_rfl) (by kernel_rfl) (fun _ _ _ h => h) (by rfl) ?y7t (by assumption) ?_
      case y7t => intro w h; (try dsimp only at h); go_simp; try with_reducible rfl
      simp only [sE0, sE1]; refine take_to 8 6 (bQ 10 511) (v := ?_) o43_5_8 rfl o43_5_ns (by kernel_rfl) (by kernel_rfl) (fun _ _ _ h => h) (by rfl) ?y8t (by assumption) ?_
      case y8t => intro w h; (try dsimp only at h); go_simp; try with_reducible rfl
      simp only [sE0, sE1]; refine take_to 9 7 (bQ 10 1023) (v := ?_) o43_5_9 rfl o43_5_ns (by kernel_rfl) (by kernel_rfl) (fun _ _ _ h => h) (by rfl) ?y9t (by assumption) ?_
      case y9t => intro w h; (try dsimp only at h); go_simp; try with_reducible rfl
      simp only [sE0, sE1]; refine wpAnyH_done (by kernel_rfl) ?_ _
      have hbe := below_step hb5 hHeld.1; clear hHeld HT hbd; go_wp2_with fail
      go_ret2
      exact ⟨by show Ending.returned (.tuple #[.int .i64 (IntKind.i64.wrap (M1 - M2)), .int .i64 0]) = _; rw [show IntKind.i64.wrap (M1 - M2) = M1 - M2 from wrap_subG hm1 hm2 hm3 hm4], hbe⟩
    ·have hZ := heap_alloc_new wc (.cells #[.slice none 0 0, .slice none 0 0] 142)
     have hbn := below_alloc wc (.cells #[.slice none 0 0, .slice none 0 0] 142); have hgz := hC.1.size; go_simp; obtain ⟨wn, hwn⟩ : ∃ wn, wc.alloc (.cells #[.slice none 0 0, .slice none 0 0] 142) = wn := ⟨_, rfl⟩
     rw [hwn] at hZ hbn ⊢
     clear hwn; replace hC := HS.out _ (below_step hC.1 hbn); try replace hN := news_below hbn hN
     try replace hown := own_belowG hown hbn
     try replace hownF := own_belowG hownF hbn
     try replace hCa := hCa.below hbn
     clear hbn; obtain ⟨wc, rfl⟩ : ∃ wc, wc = wn := ⟨_, rfl⟩
     refine hK.out _ _ (fun _ => ?_) ?_
     ·(exact hC)
     clear hK K; try simp only [Act.put, sEt, sE0, sE1]
     refine readyC (rs := [4]) (by kernel_rfl) (by simp) (each_cons (runC o43_4_4 (by rfl) (fun K hK => ?_)) each_nil)
     refine wp_append_at _ (.tmp 32) (.tmp 34) 52 rfl W.heap.size 78 i0 (.agg #[.string ⟨#[]⟩, .string ⟨#[]⟩, .int .i64 0]) 3 40 Tryz.underlying52 hi hz0 hz1 hz2 rfl (by decide) v1 xs.length _ rfl hown _ 1 1 [.string x.player, .string x.pos, .int .i64 x.value] rfl rfl hN (by simp [Value.oneCell']) (by unfold maxLen; omega) (by omega) hC.1.size ?_
     intro v2 w2 hown2 hgrow; have hCb := HS.out _ (hC.1.grown hgrow hC.1.size fun r hr => (own_block hown r hr).1)
     try replace hZ := (hgrow.block _ (lt_of_heap hZ) (fun e => by obtain ⟨_, cur, hc⟩ := own_block hown _ e.symm; rw [hZ] at hc; simp at hc)).trans hZ
     have hownF : OwnAs w2 W.heap.size v2 (xs ++ [x]) := by
      unfold OwnAs; have e : ((xs ++ [x]).map asRow).flatten = (xs.map asRow).flatten ++ [.string x.player, .string x.pos, .int .i64 x.value] := by simp [asRow]
      rw [e, List.length_append]; exact hown2
     clear hgrow hown hC hN hown2; have hC := hCb; clear hCb; obtain ⟨wc, rfl⟩ : ∃ wc, wc = w2 := ⟨_, rfl⟩
     refine hK.out _ _ (fun h => absurd h (by decide)) ?_
     clear hK K; try simp only [Act.put, sEt, sE0, sE1]
     refine readyC (rs := [6]) (by kernel_rfl) (by simp) (each_cons (runC o43_4_6 (by rfl) (fun K hK => ?_)) each_nil)
     go_simp; have hFr := fresh_own hownF; refine (DP.out _ hC.1 _ _ (hFr.ass (by simp; omega))).mono ?_
     rintro e w2 ⟨cv, rfl, hCa, hbc⟩; obtain ⟨wc, rfl⟩ : ∃ wc, wc = w2 := ⟨_, rfl⟩
     clear hFr hownF; obtain ⟨ca, cc, rfl⟩ := ca_shape hCa; replace hC := HS.out _ (below_step hC.1 hbc); try replace hZ := cells_later hZ hbc
     go_wp2_with fail
     refine hK.out _ _ (fun _ => ?_) ?_
     ·(exact hC)
     clear hK K; try simp only [Act.put, sEt, sE0, sE1]
     refine readyC (rs := [8]) (by kernel_rfl) (by simp) (each_cons (runC o43_4_8 (by rfl) (fun K hK => ?_)) each_nil)
     have hfz := fun o => frozen_ofG hZ o
     have z0 := cell_at hZ 0 rfl; have z1 := cell_at hZ 1 rfl; go_simp; refine hK.out _ _ (fun h => absurd h (by decide)) ?_
     clear hK K; try simp only [sEt, sE0, sE1]
     refine doneC (by kernel_rfl) ?_ _
     obtain ⟨gz, w5, hgq, hw5, hZo, hZ5, hg5, hgl⟩ := pool_put hZ hgz (.slice pa np pc) (.slice ca CS.length cc); rw [hgq]; rw [← hw5]; have hC5 : Cas w5 0 (.slice ca CS.length cc) CS := Cas.mono (show Cas w5 _ _ CS from Rows.row hCa hg5 (fun r hr => by cases hr; exact ⟨_, _, _, hZo, by decide⟩)) (Nat.zero_le _)
     have hb5 : Below w.heap.size w w5 := below_gbG (below_step HwW.out hC.1) hg5 (by have := HwW.out.size; omega)
     have hx5 := heap_gbG hC.2.2.2.2 hg5 (by have := HWs.out; omega)
     have x0 := cell_at hx5 0 rfl; have z0 := cell_at hZ5 0 rfl; have z1 := cell_at hZ5 1 rfl; have HT := Lib.hid (show ∀ w', Below w5.heap.size w5 w' → (Below w5.heap.size w5 w' ∧ w'.cell? ⟨gz, 0, none⟩ = some (.slice pa np pc) ∧ w'.cell? ⟨gz, 1, none⟩ = some (.slice ca CS.length cc) ∧ w'.cell? ⟨w.heap.size, 0, none⟩ = some (.string x.player)) from fun w' hb => ⟨hb, below_cell hb z0, below_cell hb z1, below_cell hb x0⟩)
     have hbd := (Below.refl w5.heap.size w5).drew; clear x0 z0 z1 hx5 hZ5 hZo hZ hC hCa hw5 hgq hgz hfz HS hg5; go_upto_region 5 with fail
     show Code.wp _ (Code.region 5 o43_5 true) _ _ _
     refine region_start 10 (fun w' => Below w5.heap.size w5 w' ∧ w'.cell? ⟨gz, 0, none⟩ = some (.slice pa np pc) ∧ w'.cell? ⟨gz, 1, none⟩ = some (.slice ca CS.length cc) ∧ w'.cell? ⟨w.heap.size, 0, none⟩ = some (.string x.player)) (by kernel_rfl) rfl ?_ (fun hHeld => ?_)
     ·(exact HT.out _ (by first | exact hbd | exact hHeld.1 | exact below_step hHeld.1 (by assumption)))
     refine take_to 0 38 (bQ 10 1) (v := ?_) o43_5_0 rfl o43_5_ns (by kernel_rfl) (by kernel_rfl) (fun _ _ _ h => h) (by rfl) ?y0t (by assumption) ?_
     case y0t => intro w h; (try dsimp only at h); go_simp; try with_reducible rfl
     simp only [sE0, sE1]; refine take_to 2 40 (bQ 10 5) (v := ?_) o43_5_2 rfl o43_5_ns (by kernel_rfl) (by kernel_rfl) (fun _ _ _ h => h) (by rfl) ?y2t (by assumption) ?_
     case y2t => intro w h; (try dsimp only at h); go_simp; try with_reducible rfl
     simp only [sE0, sE1]; refine take_to 3 41 (bQ 10 13) (v := ?_) o43_5_3 rfl o43_5_ns (by kernel_rfl) (by kernel_rfl) (fun _ _ _ h => h) (by rfl) ?y3t (by assumption) ?_
     case y3t => intro w h; (try dsimp only at h); go_simp; try with_reducible rfl
     simp only [sE0, sE1]; refine take_to 4 42 (bQ 10 29) (v := ?_) o43_5_4 rfl o43_5_ns (by kernel_rfl) (by kernel_rfl) (fun _ _ _ h => h) (by rfl) ?y4t (by assumption) ?_
     case y4t => intro w h; (try dsimp only at h); go_simp; try with_reducible rfl
     simp only [sE0, sE1]; refine run_to 1 (bQ 10 31) o43_5_1 (by kernel_rfl) (by kernel_rfl) (by rfl) (fun K hK => ?_)
     go_simp; refine (DM.out _ (below_step hb5 hHeld.1) _ _ (hC5.below hHeld.1)).mono ?_; rintro e w' ⟨rfl, hbh⟩; go_wp2_with fail
     refine hK.out _ _ ?_ (fun hHeld => ?_)
     ·(exact HT.out _ (by first | exact hbd | exact hHeld.1 | exact below_step hHeld.1 (by assumption)))
     clear hK K; try simp only [Act.put, sEt, sE0, sE1]
     refine run_to 5 (bQ 10 63) o43_5_5 (by kernel_rfl) (by kernel_rfl) (by rfl) (fun K hK => ?_)
     go_simp; refine (but_calls _ _).mono ?_; rintro e w' ⟨rfl, hbh, hcap⟩; go_wp2_with fail
     refine hK.out _ _ ?_ (fun hHeld => ?_)
     ·(exact HT.out _ (by first | exact hbd | exact hHeld.1 | exact below_step hHeld.1 (by assumption)))
     clear hK K; try simp only [Act.put, sEt, sE0, sE1]
     refine run_to 6 (bQ 10 127) o43_5_6 (by kernel_rfl) (by kernel_rfl) (by rfl) (fun K hK => ?_)
     go_simp; refine (DB.out _ (below_step hb5 hHeld.1) _ _ (hC5.below hHeld.1) _ hcap).mono ?_; rintro e w' ⟨rfl, hbh⟩; go_wp2_with fail
     refine hK.out _ _ ?_ (fun hHeld => ?_)
     ·(exact HT.out _ (by first | exact hbd | exact hHeld.1 | exact below_step hHeld.1 (by assumption)))
     clear hK K; try simp only [Act.put, sEt, sE0, sE1]
     refine take_to 7 45 (bQ 10 255) (v := ?_) o43_5_7 rfl o43_5_ns (by kernel_rfl) (by kernel_rfl) (fun _ _ _ h => h) (by rfl) ?y7t (by assumption) ?_
     case y7t => intro w h; (try dsimp only at h); go_simp; try with_reducible rfl
     simp only [sE0, sE1]; refine take_to 8 6 (bQ 10 511) (v := ?_) o43_5_8 rfl o43_5_ns (by kernel_rfl) (by kernel_rfl) (fun _ _ _ h => h) (by rfl) ?y8t (by assumption) ?_
     case y8t => intro w h; (try dsimp only at h); go_simp; try with_reducible rfl
     simp only [sE0, sE1]; refine take_to 9 7 (bQ 10 1023) (v := ?_) o43_5_9 rfl o43_5_ns (by kernel_rfl) (by kernel_rfl) (fun _ _ _ h => h) (by rfl) ?y9t (by assumption) ?_
     case y9t => intro w h; (try dsimp only at h); go_simp; try with_reducible rfl
     simp only [sE0, sE1]; refine wpAnyH_done (by kernel_rfl) ?_ _
     have hbe := below_step hb5 hHeld.1; clear hHeld HT hbd; go_wp2_with fail
     go_ret2
     exact ⟨by show Ending.returned (.tuple #[.int .i64 (IntKind.i64.wrap (M1 - M2)), .int .i64 0]) = _; rw [show IntKind.i64.wrap (M1 - M2) = M1 - M2 from wrap_subG hm1 hm2 hm3 hm4], hbe⟩
   ·have hZ := heap_alloc_new wc (.cells #[.slice none 0 0, .slice none 0 0] 142)
    have hbn := below_alloc wc (.cells #[.slice none 0 0, .slice none 0 0] 142); have hgz := hC.1.size; go_simp; obtain ⟨wn, hwn⟩ : ∃ wn, wc.alloc (.cells #[.slice none 0 0, .slice none 0 0] 142) = wn := ⟨_, rfl⟩
    rw [hwn] at hZ hbn ⊢
    clear hwn; replace hC := HS.out _ (below_step hC.1 hbn); try replace hN := news_below hbn hN
    try replace hown := own_belowG hown hbn
    try replace hownF := own_belowG hownF hbn
    try replace hCa := hCa.below hbn
    clear hbn; obtain ⟨wc, rfl⟩ : ∃ wc, wc = wn := ⟨_, rfl⟩
    refine hK.out _ _ (fun _ => ?_) ?_
    ·(exact hC)
    clear hK K; try simp only [Act.put, sEt, sE0, sE1]
    refine readyC (rs := [1]) (by kernel_rfl) (by simp) (each_cons (runC o43_4_1 (by rfl) (fun K hK => ?_)) each_nil)
    go_simp; refine (C.out _ hC.1).mono ?_; rintro e w2 ⟨v1, hown, rfl, hbc⟩; replace hown := World.ownsRow.mono hown hC.1.size; obtain ⟨wc, rfl⟩ : ∃ wc, wc = w2 := ⟨_, rfl⟩
    replace hC := HS.out _ (below_step hC.1 hbc); try replace hZ := cells_later hZ hbc
    try replace hN := news_below hbc hN
    try replace hown2 := own_belowG hown2 hbc
    try replace hCa := hCa.below hbc
    go_wp2_with fail
    refine hK.out _ _ (fun _ => ?_) ?_
    ·(exact hC)
    clear hK K; try simp only [Act.put, sEt, sE0, sE1]
    refine readyC (rs := [4]) (by kernel_rfl) (by simp) (each_cons (runC o43_4_4 (by rfl) (fun K hK => ?_)) each_nil)
    refine wp_append_at _ (.tmp 32) (.tmp 34) 52 rfl W.heap.size 78 i0 (.agg #[.string ⟨#[]⟩, .string ⟨#[]⟩, .int .i64 0]) 3 40 Tryz.underlying52 hi hz0 hz1 hz2 rfl (by decide) v1 xs.length _ rfl hown _ 1 1 [.string x.player, .string x.pos, .int .i64 x.value] rfl rfl hN (by simp [Value.oneCell']) (by unfold maxLen; omega) (by omega) hC.1.size ?_
    intro v2 w2 hown2 hgrow; have hCb := HS.out _ (hC.1.grown hgrow hC.1.size fun r hr => (own_block hown r hr).1)
    try replace hZ := (hgrow.block _ (lt_of_heap hZ) (fun e => by obtain ⟨_, cur, hc⟩ := own_block hown _ e.symm; rw [hZ] at hc; simp at hc)).trans hZ
    have hownF : OwnAs w2 W.heap.size v2 (xs ++ [x]) := by
     unfold OwnAs; have e : ((xs ++ [x]).map asRow).flatten = (xs.map asRow).flatten ++ [.string x.player, .string x.pos, .int .i64 x.value] := by simp [asRow]
     rw [e, List.length_append]; exact hown2
    clear hgrow hown hC hN hown2; have hC := hCb; clear hCb; obtain ⟨wc, rfl⟩ : ∃ wc, wc = w2 := ⟨_, rfl⟩
    refine hK.out _ _ (fun h => absurd h (by decide)) ?_
    clear hK K; try simp only [Act.put, sEt, sE0, sE1]
    refine readyC (rs := [6]) (by kernel_rfl) (by simp) (each_cons (runC o43_4_6 (by rfl) (fun K hK => ?_)) each_nil)
    go_simp; have hFr := fresh_own hownF; refine (DP.out _ hC.1 _ _ (hFr.ass (by simp; omega))).mono ?_
    rintro e w2 ⟨cv, rfl, hCa, hbc⟩; obtain ⟨wc, rfl⟩ : ∃ wc, wc = w2 := ⟨_, rfl⟩
    clear hFr hownF; obtain ⟨ca, cc, rfl⟩ := ca_shape hCa; replace hC := HS.out _ (below_step hC.1 hbc); try replace hZ := cells_later hZ hbc
    go_wp2_with fail
    refine hK.out _ _ (fun _ => ?_) ?_
    ·(exact hC)
    clear hK K; try simp only [Act.put, sEt, sE0, sE1]
    refine readyC (rs := [8]) (by kernel_rfl) (by simp) (each_cons (runC o43_4_8 (by rfl) (fun K hK => ?_)) each_nil)
    have hfz := fun o => frozen_ofG hZ o
    have z0 := cell_at hZ 0 rfl; have z1 := cell_at hZ 1 rfl; go_simp; refine hK.out _ _ (fun h => absurd h (by decide)) ?_
    clear hK K; try simp only [sEt, sE0, sE1]
    refine doneC (by kernel_rfl) ?_ _
    obtain ⟨gz, w5, hgq, hw5, hZo, hZ5, hg5, hgl⟩ := pool_put hZ hgz (.slice pa np pc) (.slice ca CS.length cc); rw [hgq]; rw [← hw5]; have hC5 : Cas w5 0 (.slice ca CS.length cc) CS := Cas.mono (show Cas w5 _ _ CS from Rows.row hCa hg5 (fun r hr => by cases hr; exact ⟨_, _, _, hZo, by decide⟩)) (Nat.zero_le _)
    have hb5 : Below w.heap.size w w5 := below_gbG (below_step HwW.out hC.1) hg5 (by have := HwW.out.size; omega)
    have hx5 := heap_gbG hC.2.2.2.2 hg5 (by have := HWs.out; omega)
    have x0 := cell_at hx5 0 rfl; have z0 := cell_at hZ5 0 rfl; have z1 := cell_at hZ5 1 rfl; have HT := Lib.hid (show ∀ w', Below w5.heap.size w5 w' → (Below w5.heap.size w5 w' ∧ w'.cell? ⟨gz, 0, none⟩ = some (.slice pa np pc) ∧ w'.cell? ⟨gz, 1, none⟩ = some (.slice ca CS.length cc) ∧ w'.cell? ⟨w.heap.size, 0, none⟩ = some (.string x.player)) from fun w' hb => ⟨hb, below_cell hb z0, below_cell hb z1, below_cell hb x0⟩)
    have hbd := (Below.refl w5.heap.size w5).drew; clear x0 z0 z1 hx5 hZ5 hZo hZ hC hCa hw5 hgq hgz hfz HS hg5; go_upto_region 5 with fail
    show Code.wp _ (Code.region 5 o43_5 true) _ _ _
    refine region_start 10 (fun w' => Below w5.heap.size w5 w' ∧ w'.cell? ⟨gz, 0, none⟩ = some (.slice pa np pc) ∧ w'.cell? ⟨gz, 1, none⟩ = some (.slice ca CS.length cc) ∧ w'.cell? ⟨w.heap.size, 0, none⟩ = some (.string x.player)) (by kernel_rfl) rfl ?_ (fun hHeld => ?_)
    ·(exact HT.out _ (by first | exact hbd | exact hHeld.1 | exact below_step hHeld.1 (by assumption)))
    refine take_to 0 38 (bQ 10 1) (v := ?_) o43_5_0 rfl o43_5_ns (by kernel_rfl) (by kernel_rfl) (fun _ _ _ h => h) (by rfl) ?y0t (by assumption) ?_
    case y0t => intro w h; (try dsimp only at h); go_simp; try with_reducible rfl
    simp only [sE0, sE1]; refine take_to 2 40 (bQ 10 5) (v := ?_) o43_5_2 rfl o43_5_ns (by kernel_rfl) (by kernel_rfl) (fun _ _ _ h => h) (by rfl) ?y2t (by assumption) ?_
    case y2t => intro w h; (try dsimp only at h); go_simp; try with_reducible rfl
    simp only [sE0, sE1]; refine take_to 3 41 (bQ 10 13) (v := ?_) o43_5_3 rfl o43_5_ns (by kernel_rfl) (by kernel_rfl) (fun _ _ _ h => h) (by rfl) ?y3t (by assumption) ?_
    case y3t => intro w h; (try dsimp only at h); go_simp; try with_reducible rfl
    simp only [sE0, sE1]; refine take_to 4 42 (bQ 10 29) (v := ?_) o43_5_4 rfl o43_5_ns (by kernel_rfl) (by kernel_rfl) (fun _ _ _ h => h) (by rfl) ?y4t (by assumption) ?_
    case y4t => intro w h; (try dsimp only at h); go_simp; try with_reducible rfl
    simp only [sE0, sE1]; refine run_to 1 (bQ 10 31) o43_5_1 (by kernel_rfl) (by kernel_rfl) (by rfl) (fun K hK => ?_)
    go_simp; refine (DM.out _ (below_step hb5 hHeld.1) _ _ (hC5.below hHeld.1)).mono ?_; rintro e w' ⟨rfl, hbh⟩; go_wp2_with fail
    refine hK.out _ _ ?_ (fun hHeld => ?_)
    ·(exact HT.out _ (by first | exact hbd | exact hHeld.1 | exact below_step hHeld.1 (by assumption)))
    clear hK K; try simp only [Act.put, sEt, sE0, sE1]
    refine run_to 5 (bQ 10 63) o43_5_5 (by kernel_rfl) (by kernel_rfl) (by rfl) (fun K hK => ?_)
    go_simp; refine (but_calls _ _).mono ?_; rintro e w' ⟨rfl, hbh, hcap⟩; go_wp2_with fail
    refine hK.out _ _ ?_ (fun hHeld => ?_)
    ·(exact HT.out _ (by first | exact hbd | exact hHeld.1 | exact below_step hHeld.1 (by assumption)))
    clear hK K; try simp only [Act.put, sEt, sE0, sE1]
    refine run_to 6 (bQ 10 127) o43_5_6 (by kernel_rfl) (by kernel_rfl) (by rfl) (fun K hK => ?_)
    go_simp; refine (DB.out _ (below_step hb5 hHeld.1) _ _ (hC5.below hHeld.1) _ hcap).mono ?_; rintro e w' ⟨rfl, hbh⟩; go_wp2_with fail
    refine hK.out _ _ ?_ (fun hHeld => ?_)
    ·(exact HT.out _ (by first | exact hbd | exact hHeld.1 | exact below_step hHeld.1 (by assumption)))
    clear hK K; try simp only [Act.put, sEt, sE0, sE1]
    refine take_to 7 45 (bQ 10 255) (v := ?_) o43_5_7 rfl o43_5_ns (by kernel_rfl) (by kernel_rfl) (fun _ _ _ h => h) (by rfl) ?y7t (by assumption) ?_
    case y7t => intro w h; (try dsimp only at h); go_simp; try with_reducible rfl
    simp only [sE0, sE1]; refine take_to 8 6 (bQ 10 511) (v := ?_) o43_5_8 rfl o43_5_ns (by kernel_rfl) (by kernel_rfl) (fun _ _ _ h => h) (by rfl) ?y8t (by assumption) ?_
    case y8t => intro w h; (try dsimp only at h); go_simp; try with_reducible rfl
    simp only [sE0, sE1]; refine take_to 9 7 (bQ 10 1023) (v := ?_) o43_5_9 rfl o43_5_ns (by kernel_rfl) (by kernel_rfl) (fun _ _ _ h => h) (by rfl) ?y9t (by assumption) ?_
    case y9t => intro w h; (try dsimp only at h); go_simp; try with_reducible rfl
    simp only [sE0, sE1]; refine wpAnyH_done (by kernel_rfl) ?_ _
    have hbe := below_step hb5 hHeld.1; clear hHeld HT hbd; go_wp2_with fail
    go_ret2
    exact ⟨by show Ending.returned (.tuple #[.int .i64 (IntKind.i64.wrap (M1 - M2)), .int .i64 0]) = _; rw [show IntKind.i64.wrap (M1 - M2) = M1 - M2 from wrap_subG hm1 hm2 hm3 hm4], hbe⟩
  ·have hZ := heap_alloc_new wc (.cells #[.slice none 0 0, .slice none 0 0] 142)
   have hbn := below_alloc wc (.cells #[.slice none 0 0, .slice none 0 0] 142); have hgz := hC.1.size; go_simp; obtain ⟨wn, hwn⟩ : ∃ wn, wc.alloc (.cells #[.slice none 0 0, .slice none 0 0] 142) = wn := ⟨_, rfl⟩
   rw [hwn] at hZ hbn ⊢
   clear hwn; replace hC := HS.out _ (below_step hC.1 hbn); try replace hN := news_below hbn hN
   try replace hown := own_belowG hown hbn
   try replace hownF := own_belowG hownF hbn
   try replace hCa := hCa.below hbn
   clear hbn; obtain ⟨wc, rfl⟩ : ∃ wc, wc = wn := ⟨_, rfl⟩
   refine hK.out _ _ (fun _ => ?_) ?_
   ·(exact hC)
   clear hK K; try simp only [Act.put, sEt, sE0, sE1]
   refine readyC (rs := [1, 3]) (by kernel_rfl) (by simp) (each_cons (runC o43_4_1 (by rfl) (fun K hK => ?_)) (each_cons (runC o43_4_3 (by rfl) (fun K hK => ?_)) each_nil))
   ·go_simp
    refine (C.out _ hC.1).mono ?_; rintro e w2 ⟨v1, hown, rfl, hbc⟩; replace hown := World.ownsRow.mono hown hC.1.size; obtain ⟨wc, rfl⟩ : ∃ wc, wc = w2 := ⟨_, rfl⟩
    replace hC := HS.out _ (below_step hC.1 hbc); try replace hZ := cells_later hZ hbc
    try replace hN := news_below hbc hN
    try replace hown2 := own_belowG hown2 hbc
    try replace hCa := hCa.below hbc
    go_wp2_with fail
    refine hK.out _ _ (fun _ => ?_) ?_
    ·(exact hC)
    clear hK K; try simp only [Act.put, sEt, sE0, sE1]
    refine readyC (rs := [3]) (by kernel_rfl) (by simp) (each_cons (runC o43_4_3 (by rfl) (fun K hK => ?_)) each_nil)
    have hN := cells_newG wc [.string x.player, .string x.pos, .int .i64 x.value] 78; have hbn := below_alloc wc (.cells #[.string x.player, .string x.pos, .int .i64 x.value] 78); go_simp; obtain ⟨wn, hwn⟩ : ∃ wn, wc.alloc (.cells #[.string x.player, .string x.pos, .int .i64 x.value] 78) = wn := ⟨_, rfl⟩
    rw [hwn] at hN hbn ⊢
    clear hwn; replace hC := HS.out _ (below_step hC.1 hbn); try replace hZ := cells_later hZ hbn
    try replace hown := own_belowG hown hbn
    try replace hownF := own_belowG hownF hbn
    try replace hCa := hCa.below hbn
    clear hbn; obtain ⟨wc, rfl⟩ : ∃ wc, wc = wn := ⟨_, rfl⟩
    refine hK.out _ _ (fun _ => ?_) ?_
    ·(exact hC)
    clear hK K; try simp only [Act.put, sEt, sE0, sE1]
    refine readyC (rs := [4]) (by kernel_rfl) (by simp) (each_cons (runC o43_4_4 (by rfl) (fun K hK => ?_)) each_nil)
    refine wp_append_at _ (.tmp 32) (.tmp 34) 52 rfl W.heap.size 78 i0 (.agg #[.string ⟨#[]⟩, .string ⟨#[]⟩, .int .i64 0]) 3 40 Tryz.underlying52 hi hz0 hz1 hz2 rfl (by decide) v1 xs.length _ rfl hown _ 1 1 [.string x.player, .string x.pos, .int .i64 x.value] rfl rfl hN (by simp [Value.oneCell']) (by unfold maxLen; omega) (by omega) hC.1.size ?_
    intro v2 w2 hown2 hgrow; have hCb := HS.out _ (hC.1.grown hgrow hC.1.size fun r hr => (own_block hown r hr).1)
    try replace hZ := (hgrow.block _ (lt_of_heap hZ) (fun e => by obtain ⟨_, cur, hc⟩ := own_block hown _ e.symm; rw [hZ] at hc; simp at hc)).trans hZ
    have hownF : OwnAs w2 W.heap.size v2 (xs ++ [x]) := by
     unfold OwnAs; have e : ((xs ++ [x]).map asRow).flatten = (xs.map asRow).flatten ++ [.string x.player, .string x.pos, .int .i64 x.value] := by simp [asRow]
     rw [e, List.length_append]; exact hown2
    clear hgrow hown hC hN hown2; have hC := hCb; clear hCb; obtain ⟨wc, rfl⟩ : ∃ wc, wc = w2 := ⟨_, rfl⟩
    refine hK.out _ _ (fun h => absurd h (by decide)) ?_
    clear hK K; try simp only [Act.put, sEt, sE0, sE1]
    refine readyC (rs := [6]) (by kernel_rfl) (by simp) (each_cons (runC o43_4_6 (by rfl) (fun K hK => ?_)) each_nil)
    go_simp; have hFr := fresh_own hownF; refine (DP.out _ hC.1 _ _ (hFr.ass (by simp; omega))).mono ?_
    rintro e w2 ⟨cv, rfl, hCa, hbc⟩; obtain ⟨wc, rfl⟩ : ∃ wc, wc = w2 := ⟨_, rfl⟩
    clear hFr hownF; obtain ⟨ca, cc, rfl⟩ := ca_shape hCa; replace hC := HS.out _ (below_step hC.1 hbc); try replace hZ := cells_later hZ hbc
    go_wp2_with fail
    refine hK.out _ _ (fun _ => ?_) ?_
    ·(exact hC)
    clear hK K; try simp only [Act.put, sEt, sE0, sE1]
    refine readyC (rs := [8]) (by kernel_rfl) (by simp) (each_cons (runC o43_4_8 (by rfl) (fun K hK => ?_)) each_nil)
    have hfz := fun o => frozen_ofG hZ o
    have z0 := cell_at hZ 0 rfl; have z1 := cell_at hZ 1 rfl; go_simp; refine hK.out _ _ (fun h => absurd h (by decide)) ?_
    clear hK K; try simp only [sEt, sE0, sE1]
    refine doneC (by kernel_rfl) ?_ _
    obtain ⟨gz, w5, hgq, hw5, hZo, hZ5, hg5, hgl⟩ := pool_put hZ hgz (.slice pa np pc) (.slice ca CS.length cc); rw [hgq]; rw [← hw5]; have hC5 : Cas w5 0 (.slice ca CS.length cc) CS := Cas.mono (show Cas w5 _ _ CS from Rows.row hCa hg5 (fun r hr => by cases hr; exact ⟨_, _, _, hZo, by decide⟩)) (Nat.zero_le _)
    have hb5 : Below w.heap.size w w5 := below_gbG (below_step HwW.out hC.1) hg5 (by have := HwW.out.size; omega)
    have hx5 := heap_gbG hC.2.2.2.2 hg5 (by have := HWs.out; omega)
    have x0 := cell_at hx5 0 rfl; have z0 := cell_at hZ5 0 rfl; have z1 := cell_at hZ5 1 rfl; have HT := Lib.hid (show ∀ w', Below w5.heap.size w5 w' → (Below w5.heap.size w5 w' ∧ w'.cell? ⟨gz, 0, none⟩ = some (.slice pa np pc) ∧ w'.cell? ⟨gz, 1, none⟩ = some (.slice ca CS.length cc) ∧ w'.cell? ⟨w.heap.size, 0, none⟩ = some (.string x.player)) from fun w' hb => ⟨hb, below_cell hb z0, below_cell hb z1, below_cell hb x0⟩)
    have hbd := (Below.refl w5.heap.size w5).drew; clear x0 z0 z1 hx5 hZ5 hZo hZ hC hCa hw5 hgq hgz hfz HS hg5; go_upto_region 5 with fail
    show Code.wp _ (Code.region 5 o43_5 true) _ _ _
    refine region_start 10 (fun w' => Below w5.heap.size w5 w' ∧ w'.cell? ⟨gz, 0, none⟩ = some (.slice pa np pc) ∧ w'.cell? ⟨gz, 1, none⟩ = some (.slice ca CS.length cc) ∧ w'.cell? ⟨w.heap.size, 0, none⟩ = some (.string x.player)) (by kernel_rfl) rfl ?_ (fun hHeld => ?_)
    ·(exact HT.out _ (by first | exact hbd | exact hHeld.1 | exact below_step hHeld.1 (by assumption)))
    refine take_to 0 38 (bQ 10 1) (v := ?_) o43_5_0 rfl o43_5_ns (by kernel_rfl) (by kernel_rfl) (fun _ _ _ h => h) (by rfl) ?y0t (by assumption) ?_
    case y0t => intro w h; (try dsimp only at h); go_simp; try with_reducible rfl
    simp only [sE0, sE1]; refine take_to 2 40 (bQ 10 5) (v := ?_) o43_5_2 rfl o43_5_ns (by kernel_rfl) (by kernel_rfl) (fun _ _ _ h => h) (by rfl) ?y2t (by assumption) ?_
    case y2t => intro w h; (try dsimp only at h); go_simp; try with_reducible rfl
    simp only [sE0, sE1]; refine take_to 3 41 (bQ 10 13) (v := ?_) o43_5_3 rfl o43_5_ns (by kernel_rfl) (by kernel_rfl) (fun _ _ _ h => h) (by rfl) ?y3t (by assumption) ?_
    case y3t => intro w h; (try dsimp only at h); go_simp; try with_reducible rfl
    simp only [sE0, sE1]; refine take_to 4 42 (bQ 10 29) (v := ?_) o43_5_4 rfl o43_5_ns (by kernel_rfl) (by kernel_rfl) (fun _ _ _ h => h) (by rfl) ?y4t (by assumption) ?_
    case y4t => intro w h; (try dsimp only at h); go_simp; try with_reducible rfl
    simp only [sE0, sE1]; refine run_to 1 (bQ 10 31) o43_5_1 (by kernel_rfl) (by kernel_rfl) (by rfl) (fun K hK => ?_)
    go_simp; refine (DM.out _ (below_step hb5 hHeld.1) _ _ (hC5.below hHeld.1)).mono ?_; rintro e w' ⟨rfl, hbh⟩; go_wp2_with fail
    refine hK.out _ _ ?_ (fun hHeld => ?_)
    ·(exact HT.out _ (by first | exact hbd | exact hHeld.1 | exact below_step hHeld.1 (by assumption)))
    clear hK K; try simp only [Act.put, sEt, sE0, sE1]
    refine run_to 5 (bQ 10 63) o43_5_5 (by kernel_rfl) (by kernel_rfl) (by rfl) (fun K hK => ?_)
    go_simp; refine (but_calls _ _).mono ?_; rintro e w' ⟨rfl, hbh, hcap⟩; go_wp2_with fail
    refine hK.out _ _ ?_ (fun hHeld => ?_)
    ·(exact HT.out _ (by first | exact hbd | exact hHeld.1 | exact below_step hHeld.1 (by assumption)))
    clear hK K; try simp only [Act.put, sEt, sE0, sE1]
    refine run_to 6 (bQ 10 127) o43_5_6 (by kernel_rfl) (by kernel_rfl) (by rfl) (fun K hK => ?_)
    go_simp; refine (DB.out _ (below_step hb5 hHeld.1) _ _ (hC5.below hHeld.1) _ hcap).mono ?_; rintro e w' ⟨rfl, hbh⟩; go_wp2_with fail
    refine hK.out _ _ ?_ (fun hHeld => ?_)
    ·(exact HT.out _ (by first | exact hbd | exact hHeld.1 | exact below_step hHeld.1 (by assumption)))
    clear hK K; try simp only [Act.put, sEt, sE0, sE1]
    refine take_to 7 45 (bQ 10 255) (v := ?_) o43_5_7 rfl o43_5_ns (by kernel_rfl) (by kernel_rfl) (fun _ _ _ h => h) (by rfl) ?y7t (by assumption) ?_
    case y7t => intro w h; (try dsimp only at h); go_simp; try with_reducible rfl
    simp only [sE0, sE1]; refine take_to 8 6 (bQ 10 511) (v := ?_) o43_5_8 rfl o43_5_ns (by kernel_rfl) (by kernel_rfl) (fun _ _ _ h => h) (by rfl) ?y8t (by assumption) ?_
    case y8t => intro w h; (try dsimp only at h); go_simp; try with_reducible rfl
    simp only [sE0, sE1]; refine take_to 9 7 (bQ 10 1023) (v := ?_) o43_5_9 rfl o43_5_ns (by kernel_rfl) (by kernel_rfl) (fun _ _ _ h => h) (by rfl) ?y9t (by assumption) ?_
    case y9t => intro w h; (try dsimp only at h); go_simp; try with_reducible rfl
    simp only [sE0, sE1]; refine wpAnyH_done (by kernel_rfl) ?_ _
    have hbe := below_step hb5 hHeld.1; clear hHeld HT hbd; go_wp2_with fail
    go_ret2
    exact ⟨by show Ending.returned (.tuple #[.int .i64 (IntKind.i64.wrap (M1 - M2)), .int .i64 0]) = _; rw [show IntKind.i64.wrap (M1 - M2) = M1 - M2 from wrap_subG hm1 hm2 hm3 hm4], hbe⟩
   ·have hN := cells_newG wc [.string x.player, .string x.pos, .int .i64 x.value] 78
    have hbn := below_alloc wc (.cells #[.string x.player, .string x.pos, .int .i64 x.value] 78); go_simp; obtain ⟨wn, hwn⟩ : ∃ wn, wc.alloc (.cells #[.string x.player, .string x.pos, .int .i64 x.value] 78) = wn := ⟨_, rfl⟩
    rw [hwn] at hN hbn ⊢
    clear hwn; replace hC := HS.out _ (below_step hC.1 hbn); try replace hZ := cells_later hZ hbn
    try replace hown := own_belowG hown hbn
    try replace hownF := own_belowG hownF hbn
    try replace hCa := hCa.below hbn
    clear hbn; obtain ⟨wc, rfl⟩ : ∃ wc, wc = wn := ⟨_, rfl⟩
    refine hK.out _ _ (fun _ => ?_) ?_
    ·(exact hC)
    clear hK K; try simp only [Act.put, sEt, sE0, sE1]
    refine readyC (rs := [1]) (by kernel_rfl) (by simp) (each_cons (runC o43_4_1 (by rfl) (fun K hK => ?_)) each_nil)
    go_simp; refine (C.out _ hC.1).mono ?_; rintro e w2 ⟨v1, hown, rfl, hbc⟩; replace hown := World.ownsRow.mono hown hC.1.size; obtain ⟨wc, rfl⟩ : ∃ wc, wc = w2 := ⟨_, rfl⟩
    replace hC := HS.out _ (below_step hC.1 hbc); try replace hZ := cells_later hZ hbc
    try replace hN := news_below hbc hN
    try replace hown2 := own_belowG hown2 hbc
    try replace hCa := hCa.below hbc
    go_wp2_with fail
    refine hK.out _ _ (fun _ => ?_) ?_
    ·(exact hC)
    clear hK K; try simp only [Act.put, sEt, sE0, sE1]
    refine readyC (rs := [4]) (by kernel_rfl) (by simp) (each_cons (runC o43_4_4 (by rfl) (fun K hK => ?_)) each_nil)
    refine wp_append_at _ (.tmp 32) (.tmp 34) 52 rfl W.heap.size 78 i0 (.agg #[.string ⟨#[]⟩, .string ⟨#[]⟩, .int .i64 0]) 3 40 Tryz.underlying52 hi hz0 hz1 hz2 rfl (by decide) v1 xs.length _ rfl hown _ 1 1 [.string x.player, .string x.pos, .int .i64 x.value] rfl rfl hN (by simp [Value.oneCell']) (by unfold maxLen; omega) (by omega) hC.1.size ?_
    intro v2 w2 hown2 hgrow; have hCb := HS.out _ (hC.1.grown hgrow hC.1.size fun r hr => (own_block hown r hr).1)
    try replace hZ := (hgrow.block _ (lt_of_heap hZ) (fun e => by obtain ⟨_, cur, hc⟩ := own_block hown _ e.symm; rw [hZ] at hc; simp at hc)).trans hZ
    have hownF : OwnAs w2 W.heap.size v2 (xs ++ [x]) := by
     unfold OwnAs; have e : ((xs ++ [x]).map asRow).flatten = (xs.map asRow).flatten ++ [.string x.player, .string x.pos, .int .i64 x.value] := by simp [asRow]
     rw [e, List.length_append]; exact hown2
    clear hgrow hown hC hN hown2; have hC := hCb; clear hCb; obtain ⟨wc, rfl⟩ : ∃ wc, wc = w2 := ⟨_, rfl⟩
    refine hK.out _ _ (fun h => absurd h (by decide)) ?_
    clear hK K; try simp only [Act.put, sEt, sE0, sE1]
    refine readyC (rs := [6]) (by kernel_rfl) (by simp) (each_cons (runC o43_4_6 (by rfl) (fun K hK => ?_)) each_nil)
    go_simp; have hFr := fresh_own hownF; refine (DP.out _ hC.1 _ _ (hFr.ass (by simp; omega))).mono ?_
    rintro e w2 ⟨cv, rfl, hCa, hbc⟩; obtain ⟨wc, rfl⟩ : ∃ wc, wc = w2 := ⟨_, rfl⟩
    clear hFr hownF; obtain ⟨ca, cc, rfl⟩ := ca_shape hCa; replace hC := HS.out _ (below_step hC.1 hbc); try replace hZ := cells_later hZ hbc
    go_wp2_with fail
    refine hK.out _ _ (fun _ => ?_) ?_
    ·(exact hC)
    clear hK K; try simp only [Act.put, sEt, sE0, sE1]
    refine readyC (rs := [8]) (by kernel_rfl) (by simp) (each_cons (runC o43_4_8 (by rfl) (fun K hK => ?_)) each_nil)
    have hfz := fun o => frozen_ofG hZ o
    have z0 := cell_at hZ 0 rfl; have z1 := cell_at hZ 1 rfl; go_simp; refine hK.out _ _ (fun h => absurd h (by decide)) ?_
    clear hK K; try simp only [sEt, sE0, sE1]
    refine doneC (by kernel_rfl) ?_ _
    obtain ⟨gz, w5, hgq, hw5, hZo, hZ5, hg5, hgl⟩ := pool_put hZ hgz (.slice pa np pc) (.slice ca CS.length cc); rw [hgq]; rw [← hw5]; have hC5 : Cas w5 0 (.slice ca CS.length cc) CS := Cas.mono (show Cas w5 _ _ CS from Rows.row hCa hg5 (fun r hr => by cases hr; exact ⟨_, _, _, hZo, by decide⟩)) (Nat.zero_le _)
    have hb5 : Below w.heap.size w w5 := below_gbG (below_step HwW.out hC.1) hg5 (by have := HwW.out.size; omega)
    have hx5 := heap_gbG hC.2.2.2.2 hg5 (by have := HWs.out; omega)
    have x0 := cell_at hx5 0 rfl; have z0 := cell_at hZ5 0 rfl; have z1 := cell_at hZ5 1 rfl; have HT := Lib.hid (show ∀ w', Below w5.heap.size w5 w' → (Below w5.heap.size w5 w' ∧ w'.cell? ⟨gz, 0, none⟩ = some (.slice pa np pc) ∧ w'.cell? ⟨gz, 1, none⟩ = some (.slice ca CS.length cc) ∧ w'.cell? ⟨w.heap.size, 0, none⟩ = some (.string x.player)) from fun w' hb => ⟨hb, below_cell hb z0, below_cell hb z1, below_cell hb x0⟩)
    have hbd := (Below.refl w5.heap.size w5).drew; clear x0 z0 z1 hx5 hZ5 hZo hZ hC hCa hw5 hgq hgz hfz HS hg5; go_upto_region 5 with fail
    show Code.wp _ (Code.region 5 o43_5 true) _ _ _
    refine region_start 10 (fun w' => Below w5.heap.size w5 w' ∧ w'.cell? ⟨gz, 0, none⟩ = some (.slice pa np pc) ∧ w'.cell? ⟨gz, 1, none⟩ = some (.slice ca CS.length cc) ∧ w'.cell? ⟨w.heap.size, 0, none⟩ = some (.string x.player)) (by kernel_rfl) rfl ?_ (fun hHeld => ?_)
    ·(exact HT.out _ (by first | exact hbd | exact hHeld.1 | exact below_step hHeld.1 (by assumption)))
    refine take_to 0 38 (bQ 10 1) (v := ?_) o43_5_0 rfl o43_5_ns (by kernel_rfl) (by kernel_rfl) (fun _ _ _ h => h) (by rfl) ?y0t (by assumption) ?_
    case y0t => intro w h; (try dsimp only at h); go_simp; try with_reducible rfl
    simp only [sE0, sE1]; refine take_to 2 40 (bQ 10 5) (v := ?_) o43_5_2 rfl o43_5_ns (by kernel_rfl) (by kernel_rfl) (fun _ _ _ h => h) (by rfl) ?y2t (by assumption) ?_
    case y2t => intro w h; (try dsimp only at h); go_simp; try with_reducible rfl
    simp only [sE0, sE1]; refine take_to 3 41 (bQ 10 13) (v := ?_) o43_5_3 rfl o43_5_ns (by kernel_rfl) (by kernel_rfl) (fun _ _ _ h => h) (by rfl) ?y3t (by assumption) ?_
    case y3t => intro w h; (try dsimp only at h); go_simp; try with_reducible rfl
    simp only [sE0, sE1]; refine take_to 4 42 (bQ 10 29) (v := ?_) o43_5_4 rfl o43_5_ns (by kernel_rfl) (by kernel_rfl) (fun _ _ _ h => h) (by rfl) ?y4t (by assumption) ?_
    case y4t => intro w h; (try dsimp only at h); go_simp; try with_reducible rfl
    simp only [sE0, sE1]; refine run_to 1 (bQ 10 31) o43_5_1 (by kernel_rfl) (by kernel_rfl) (by rfl) (fun K hK => ?_)
    go_simp; refine (DM.out _ (below_step hb5 hHeld.1) _ _ (hC5.below hHeld.1)).mono ?_; rintro e w' ⟨rfl, hbh⟩; go_wp2_with fail
    refine hK.out _ _ ?_ (fun hHeld => ?_)
    ·(exact HT.out _ (by first | exact hbd | exact hHeld.1 | exact below_step hHeld.1 (by assumption)))
    clear hK K; try simp only [Act.put, sEt, sE0, sE1]
    refine run_to 5 (bQ 10 63) o43_5_5 (by kernel_rfl) (by kernel_rfl) (by rfl) (fun K hK => ?_)
    go_simp; refine (but_calls _ _).mono ?_; rintro e w' ⟨rfl, hbh, hcap⟩; go_wp2_with fail
    refine hK.out _ _ ?_ (fun hHeld => ?_)
    ·(exact HT.out _ (by first | exact hbd | exact hHeld.1 | exact below_step hHeld.1 (by assumption)))
    clear hK K; try simp only [Act.put, sEt, sE0, sE1]
    refine run_to 6 (bQ 10 127) o43_5_6 (by kernel_rfl) (by kernel_rfl) (by rfl) (fun K hK => ?_)
    go_simp; refine (DB.out _ (below_step hb5 hHeld.1) _ _ (hC5.below hHeld.1) _ hcap).mono ?_; rintro e w' ⟨rfl, hbh⟩; go_wp2_with fail
    refine hK.out _ _ ?_ (fun hHeld => ?_)
    ·(exact HT.out _ (by first | exact hbd | exact hHeld.1 | exact below_step hHeld.1 (by assumption)))
    clear hK K; try simp only [Act.put, sEt, sE0, sE1]
    refine take_to 7 45 (bQ 10 255) (v := ?_) o43_5_7 rfl o43_5_ns (by kernel_rfl) (by kernel_rfl) (fun _ _ _ h => h) (by rfl) ?y7t (by assumption) ?_
    case y7t => intro w h; (try dsimp only at h); go_simp; try with_reducible rfl
    simp only [sE0, sE1]; refine take_to 8 6 (bQ 10 511) (v := ?_) o43_5_8 rfl o43_5_ns (by kernel_rfl) (by kernel_rfl) (fun _ _ _ h => h) (by rfl) ?y8t (by assumption) ?_
    case y8t => intro w h; (try dsimp only at h); go_simp; try with_reducible rfl
    simp only [sE0, sE1]; refine take_to 9 7 (bQ 10 1023) (v := ?_) o43_5_9 rfl o43_5_ns (by kernel_rfl) (by kernel_rfl) (fun _ _ _ h => h) (by rfl) ?y9t (by assumption) ?_
    case y9t => intro w h; (try dsimp only at h); go_simp; try with_reducible rfl
    simp only [sE0, sE1]; refine wpAnyH_done (by kernel_rfl) ?_ _
    have hbe := below_step hb5 hHeld.1; clear hHeld HT hbd; go_wp2_with fail
    go_ret2
    exact ⟨by show Ending.returned (.tuple #[.int .i64 (IntKind.i64.wrap (M1 - M2)), .int .i64 0]) = _; rw [show IntKind.i64.wrap (M1 - M2) = M1 - M2 from wrap_subG hm1 hm2 hm3 hm4], hbe⟩
end Go.Proofs.YtddnnjblpgfjeaaGreatDoor
/- Whom to drop: the program's way. -/
namespace Go.Proofs.YtddnnjblpgfjeaaGreatDoor
open Go.RowKit

theorem then_first3 {a b c : Int} : firstE [a, b, c] = if a = 0 then (if b = 0 then c else b) else a := by
 unfold firstE firstE firstE firstE
 split
 ·split
  ·split
   ·rename_i h; exact h.symm
   ·rfl
  ·rfl
 ·rfl
def o112_1 : Array Go.Oper := #[
 ⟨some 6, .load 129 (.tmp 2), 129, "field.go:55", #[], none⟩,
 ⟨some 7, .fieldAddr 78 (.tmp 4) 0, 0, "field.go:55", #[], none⟩,
 ⟨some 8, .load 9 (.tmp 7), 9, "field.go:55", #[⟨1, .data⟩], none⟩,
 ⟨some 9, .lookup 129 (.tmp 6) (.tmp 8) false, 3, "field.go:55", #[⟨0, .data⟩, ⟨2, .data⟩], none⟩,
 ⟨some 10, .load 129 (.tmp 2), 129, "field.go:55", #[], none⟩,
 ⟨some 11, .fieldAddr 78 (.tmp 3) 0, 0, "field.go:55", #[], none⟩,
 ⟨some 12, .load 9 (.tmp 11), 9, "field.go:55", #[⟨5, .data⟩], none⟩,
 ⟨some 13, .lookup 129 (.tmp 10) (.tmp 12) false, 3, "field.go:55", #[⟨4, .data⟩, ⟨6, .data⟩], none⟩,
 ⟨some 14, .call { callee := .value (.func 67), args := #[.tmp 9, .tmp 13], argTypes := #[3, 3] }, 3, "field.go:56", #[⟨3, .data⟩, ⟨7, .data⟩], none⟩,
 ⟨some 15, .fieldAddr 78 (.tmp 3) 2, 0, "field.go:55", #[], none⟩,
 ⟨some 16, .load 3 (.tmp 15), 3, "field.go:55", #[⟨9, .data⟩], none⟩,
 ⟨some 17, .fieldAddr 78 (.tmp 4) 2, 0, "field.go:55", #[], none⟩,
 ⟨some 18, .load 3 (.tmp 17), 3, "field.go:55", #[⟨11, .data⟩], none⟩,
 ⟨some 19, .call { callee := .value (.func 67), args := #[.tmp 16, .tmp 18], argTypes := #[3, 3] }, 3, "field.go:57", #[⟨10, .data⟩, ⟨12, .data⟩, ⟨8, .chain⟩], none⟩,
 ⟨some 20, .fieldAddr 78 (.tmp 4) 0, 0, "field.go:55", #[], none⟩,
 ⟨some 21, .load 9 (.tmp 20), 9, "field.go:55", #[⟨14, .data⟩], none⟩,
 ⟨some 22, .fieldAddr 78 (.tmp 3) 0, 0, "field.go:55", #[], none⟩,
 ⟨some 23, .load 9 (.tmp 22), 9, "field.go:55", #[⟨16, .data⟩], none⟩,
 ⟨some 24, .call { callee := .value (.func 66), args := #[.tmp 21, .tmp 23], argTypes := #[9, 9] }, 3, "field.go:58", #[⟨15, .data⟩, ⟨17, .data⟩, ⟨13, .chain⟩], none⟩,
 ⟨some 25, .buildSlice 22 3 #[(0, .tmp 14), (1, .tmp 19), (2, .tmp 24)], 22, "field.go:55", #[⟨8, .data⟩, ⟨13, .data⟩, ⟨18, .data⟩], none⟩,
 ⟨some 26, .call { callee := .value (.func 65), args := #[.tmp 25], argTypes := #[22] }, 3, "field.go:55", #[⟨19, .data⟩, ⟨18, .chain⟩], none⟩,
 ⟨some 5, .assign (.tmp 26), 3, "field.go:55", #[⟨20, .data⟩, ⟨20, .chain⟩, ⟨0, .phase⟩, ⟨1, .phase⟩, ⟨2, .phase⟩, ⟨3, .phase⟩, ⟨4, .phase⟩, ⟨5, .phase⟩, ⟨6, .phase⟩, ⟨7, .phase⟩, ⟨8, .phase⟩, ⟨9, .phase⟩, ⟨10, .phase⟩, ⟨11, .phase⟩, ⟨12, .phase⟩, ⟨13, .phase⟩, ⟨14, .phase⟩, ⟨15, .phase⟩, ⟨16, .phase⟩, ⟨17, .phase⟩, ⟨18, .phase⟩, ⟨19, .phase⟩, ⟨20, .phase⟩], none⟩]
theorem o112_1_0 : o112_1[0]? = some (⟨some 6, .load 129 (.tmp 2), 129, "field.go:55", #[], none⟩ : Go.Oper) := rfl
theorem o112_1_1 : o112_1[1]? = some (⟨some 7, .fieldAddr 78 (.tmp 4) 0, 0, "field.go:55", #[], none⟩ : Go.Oper) := rfl
theorem o112_1_2 : o112_1[2]? = some (⟨some 8, .load 9 (.tmp 7), 9, "field.go:55", #[⟨1, .data⟩], none⟩ : Go.Oper) := rfl
theorem o112_1_3 : o112_1[3]? = some (⟨some 9, .lookup 129 (.tmp 6) (.tmp 8) false, 3, "field.go:55", #[⟨0, .data⟩, ⟨2, .data⟩], none⟩ : Go.Oper) := rfl
theorem o112_1_4 : o112_1[4]? = some (⟨some 10, .load 129 (.tmp 2), 129, "field.go:55", #[], none⟩ : Go.Oper) := rfl
theorem o112_1_5 : o112_1[5]? = some (⟨some 11, .fieldAddr 78 (.tmp 3) 0, 0, "field.go:55", #[], none⟩ : Go.Oper) := rfl
theorem o112_1_6 : o112_1[6]? = some (⟨some 12, .load 9 (.tmp 11), 9, "field.go:55", #[⟨5, .data⟩], none⟩ : Go.Oper) := rfl
theorem o112_1_7 : o112_1[7]? = some (⟨some 13, .lookup 129 (.tmp 10) (.tmp 12) false, 3, "field.go:55", #[⟨4, .data⟩, ⟨6, .data⟩], none⟩ : Go.Oper) := rfl
theorem o112_1_8 : o112_1[8]? = some (⟨some 14, .call { callee := .value (.func 67), args := #[.tmp 9, .tmp 13], argTypes := #[3, 3] }, 3, "field.go:56", #[⟨3, .data⟩, ⟨7, .data⟩], none⟩ : Go.Oper) := rfl
theorem o112_1_9 : o112_1[9]? = some (⟨some 15, .fieldAddr 78 (.tmp 3) 2, 0, "field.go:55", #[], none⟩ : Go.Oper) := rfl
theorem o112_1_10 : o112_1[10]? = some (⟨some 16, .load 3 (.tmp 15), 3, "field.go:55", #[⟨9, .data⟩], none⟩ : Go.Oper) := rfl
theorem o112_1_11 : o112_1[11]? = some (⟨some 17, .fieldAddr 78 (.tmp 4) 2, 0, "field.go:55", #[], none⟩ : Go.Oper) := rfl
theorem o112_1_12 : o112_1[12]? = some (⟨some 18, .load 3 (.tmp 17), 3, "field.go:55", #[⟨11, .data⟩], none⟩ : Go.Oper) := rfl
theorem o112_1_13 : o112_1[13]? = some (⟨some 19, .call { callee := .value (.func 67), args := #[.tmp 16, .tmp 18], argTypes := #[3, 3] }, 3, "field.go:57", #[⟨10, .data⟩, ⟨12, .data⟩, ⟨8, .chain⟩], none⟩ : Go.Oper) := rfl
theorem o112_1_14 : o112_1[14]? = some (⟨some 20, .fieldAddr 78 (.tmp 4) 0, 0, "field.go:55", #[], none⟩ : Go.Oper) := rfl
theorem o112_1_15 : o112_1[15]? = some (⟨some 21, .load 9 (.tmp 20), 9, "field.go:55", #[⟨14, .data⟩], none⟩ : Go.Oper) := rfl
theorem o112_1_16 : o112_1[16]? = some (⟨some 22, .fieldAddr 78 (.tmp 3) 0, 0, "field.go:55", #[], none⟩ : Go.Oper) := rfl
theorem o112_1_17 : o112_1[17]? = some (⟨some 23, .load 9 (.tmp 22), 9, "field.go:55", #[⟨16, .data⟩], none⟩ : Go.Oper) := rfl
theorem o112_1_18 : o112_1[18]? = some (⟨some 24, .call { callee := .value (.func 66), args := #[.tmp 21, .tmp 23], argTypes := #[9, 9] }, 3, "field.go:58", #[⟨15, .data⟩, ⟨17, .data⟩, ⟨13, .chain⟩], none⟩ : Go.Oper) := rfl
theorem o112_1_19 : o112_1[19]? = some (⟨some 25, .buildSlice 22 3 #[(0, .tmp 14), (1, .tmp 19), (2, .tmp 24)], 22, "field.go:55", #[⟨8, .data⟩, ⟨13, .data⟩, ⟨18, .data⟩], none⟩ : Go.Oper) := rfl
theorem o112_1_20 : o112_1[20]? = some (⟨some 26, .call { callee := .value (.func 65), args := #[.tmp 25], argTypes := #[22] }, 3, "field.go:55", #[⟨19, .data⟩, ⟨18, .chain⟩], none⟩ : Go.Oper) := rfl
theorem o112_1_21 : o112_1[21]? = some (⟨some 5, .assign (.tmp 26), 3, "field.go:55", #[⟨20, .data⟩, ⟨20, .chain⟩, ⟨0, .phase⟩, ⟨1, .phase⟩, ⟨2, .phase⟩, ⟨3, .phase⟩, ⟨4, .phase⟩, ⟨5, .phase⟩, ⟨6, .phase⟩, ⟨7, .phase⟩, ⟨8, .phase⟩, ⟨9, .phase⟩, ⟨10, .phase⟩, ⟨11, .phase⟩, ⟨12, .phase⟩, ⟨13, .phase⟩, ⟨14, .phase⟩, ⟨15, .phase⟩, ⟨16, .phase⟩, ⟨17, .phase⟩, ⟨18, .phase⟩, ⟨19, .phase⟩, ⟨20, .phase⟩], none⟩ : Go.Oper) := rfl
theorem o112_1_ns : Go.Region.noSelect o112_1 = true := by kernel_rfl
set_option maxRecDepth 100000 in
set_option maxHeartbeats 4000000 in
theorem drop1_calls (X b n : Nat) (f : ByteArray → Option Int) (x y : AsD) (w : World) (hX : w.cell? ⟨X, 0, none⟩ = some (.map (some b))) (hm : IMap w b n f) (hsx : SmallA x) (hsy : SmallA y) : Calls Tryz.prog 112 #[.agg #[.string x.player, .string x.pos, .int .i64 x.value], .agg #[.string y.player, .string y.pos, .int .i64 y.value], .pointer (some ⟨X, 0, none⟩)] w (IntBelow (cmpDrop (fun z => (f z.player).getD 0) x y) w) := by
 obtain ⟨W, hW⟩ : ∃ W, W = (w.alloc (.cells #[.string x.player, .string x.pos, .int .i64 x.value] 78)).alloc (.cells #[.string y.player, .string y.pos, .int .i64 y.value] 78) := ⟨_, rfl⟩
 have hG : Below w.heap.size w W := by rw [hW]; exact below_step (below_alloc w _) (below_alloc _ _)
 have hx : W.heap[w.heap.size]? = some (.cells #[.string x.player, .string x.pos, .int .i64 x.value] 78 (0, 0)) := by rw [hW]; exact heap_alG (heap_alloc_new w _) _
 have hy : W.heap[w.heap.size + 1]? = some (.cells #[.string y.player, .string y.pos, .int .i64 y.value] 78 (0, 0)) := by
  rw [hW]; have := heap_alloc_new (w.alloc (.cells #[.string x.player, .string x.pos, .int .i64 x.value] 78)) (.cells #[.string y.player, .string y.pos, .int .i64 y.value] 78); simpa using this
 have x0 := cell_at hx 0 rfl
 have x1 := cell_at hx 1 rfl
 have x2 := cell_at hx 2 rfl
 have y0 := cell_at hy 0 rfl
 have y1 := cell_at hy 1 rfl
 have y2 := cell_at hy 2 rfl
 have hXW := below_cell hG hX
 have hmW := hm.below hG
 have HR := Lib.hid (show cmpDrop (fun z => (f z.player).getD 0) x y = firstE [Lib.compareInt ((f y.player).getD 0) ((f x.player).getD 0), Lib.compareInt x.value y.value, cmpS y.player x.player] by rw [then_first3]; rfl)
 have HS := Lib.hid (show ∀ w', Below W.heap.size W w' → (Below w.heap.size w w' ∧ Below W.heap.size W w' ∧ w'.cell? ⟨w.heap.size, 0, none⟩ = some (.string x.player) ∧ w'.cell? ⟨w.heap.size, 1, none⟩ = some (.string x.pos) ∧ w'.cell? ⟨w.heap.size, 2, none⟩ = some (.int .i64 x.value) ∧ w'.cell? ⟨w.heap.size + 1, 0, none⟩ = some (.string y.player) ∧ w'.cell? ⟨w.heap.size + 1, 1, none⟩ = some (.string y.pos) ∧ w'.cell? ⟨w.heap.size + 1, 2, none⟩ = some (.int .i64 y.value) ∧ w'.cell? ⟨X, 0, none⟩ = some (.map (some b)) ∧ IMap w' b n f) from fun w' hb => ⟨below_step hG hb, hb, below_cell hb x0, below_cell hb x1, below_cell hb x2, below_cell hb y0, below_cell hb y1, below_cell hb y2, below_cell hb hXW, hmW.below hb⟩)
 have hb0 := (Below.refl W.heap.size W).drew
 have hkx : x.player.size ≤ 1000000 := Nat.le_trans hsx.1 (by decide)
 have hky : y.player.size ≤ 1000000 := Nat.le_trans hsy.1 (by decide)
 clear x0 x1 x2 y0 y1 y2 hx hy hX hm hXW hmW hsx hsy hG
 go_enter Tryz.func112, Tryz.ntmps112
 go_upto_region 1 with fail
 rw [← hW]
 clear hW
 show Code.wp _ (Code.region 1 o112_1 true) _ _ _
 refine region_start 22 (fun w' => Below w.heap.size w w' ∧ Below W.heap.size W w' ∧ w'.cell? ⟨w.heap.size, 0, none⟩ = some (.string x.player) ∧ w'.cell? ⟨w.heap.size, 1, none⟩ = some (.string x.pos) ∧ w'.cell? ⟨w.heap.size, 2, none⟩ = some (.int .i64 x.value) ∧ w'.cell? ⟨w.heap.size + 1, 0, none⟩ = some (.string y.player) ∧ w'.cell? ⟨w.heap.size + 1, 1, none⟩ = some (.string y.pos) ∧ w'.cell? ⟨w.heap.size + 1, 2, none⟩ = some (.int .i64 y.value) ∧ w'.cell? ⟨X, 0, none⟩ = some (.map (some b)) ∧ IMap w' b n f) (by kernel_rfl) rfl ?_ (fun hHeld => ?_)
 ·(exact HS.out _ (by first | exact hb0 | exact hHeld.2.1 | exact below_step hHeld.2.1 (below_alloc _ _)))
 refine take_to 0 6 (bQ 22 1) (v := ?_) o112_1_0 rfl o112_1_ns (by kernel_rfl) (by kernel_rfl) (fun _ _ _ h => h) (by rfl) ?y0r (by assumption) ?_
 case y0r => intro w h; (try dsimp only at h); go_simp; try with_reducible rfl
 simp only [sE0, sE1]
 refine take_to 1 7 (bQ 22 3) (v := ?_) o112_1_1 rfl o112_1_ns (by kernel_rfl) (by kernel_rfl) (fun _ _ _ h => h) (by rfl) ?y1r (by assumption) ?_
 case y1r => intro w h; (try dsimp only at h); go_simp; try with_reducible rfl
 simp only [sE0, sE1]
 refine take_to 2 8 (bQ 22 7) (v := ?_) o112_1_2 rfl o112_1_ns (by kernel_rfl) (by kernel_rfl) (fun _ _ _ h => h) (by rfl) ?y2r (by assumption) ?_
 case y2r => intro w h; (try dsimp only at h); go_simp; try with_reducible rfl
 simp only [sE0, sE1]
 refine take_to 3 9 (bQ 22 15) (v := .int .i64 ((f y.player).getD 0)) o112_1_3 rfl o112_1_ns (by kernel_rfl) (by kernel_rfl) (fun _ _ _ h => h) (by rfl) ?y3r (by assumption) ?_
 case y3r =>
  intro w hSw; try dsimp only at hSw
  have hq := hSw.2.2.2.2.2.2.2.2.2.look y.player hky; go_simp; try with_reducible rfl
 simp only [sE0, sE1]
 refine take_to 4 10 (bQ 22 31) (v := ?_) o112_1_4 rfl o112_1_ns (by kernel_rfl) (by kernel_rfl) (fun _ _ _ h => h) (by rfl) ?y4r (by assumption) ?_
 case y4r => intro w h; (try dsimp only at h); go_simp; try with_reducible rfl
 simp only [sE0, sE1]
 refine take_to 5 11 (bQ 22 63) (v := ?_) o112_1_5 rfl o112_1_ns (by kernel_rfl) (by kernel_rfl) (fun _ _ _ h => h) (by rfl) ?y5r (by assumption) ?_
 case y5r => intro w h; (try dsimp only at h); go_simp; try with_reducible rfl
 simp only [sE0, sE1]
 refine take_to 6 12 (bQ 22 127) (v := ?_) o112_1_6 rfl o112_1_ns (by kernel_rfl) (by kernel_rfl) (fun _ _ _ h => h) (by rfl) ?y6r (by assumption) ?_
 case y6r => intro w h; (try dsimp only at h); go_simp; try with_reducible rfl
 simp only [sE0, sE1]
 refine take_to 7 13 (bQ 22 255) (v := .int .i64 ((f x.player).getD 0)) o112_1_7 rfl o112_1_ns (by kernel_rfl) (by kernel_rfl) (fun _ _ _ h => h) (by rfl) ?y7r (by assumption) ?_
 case y7r =>
  intro w hSw; try dsimp only at hSw
  have hq := hSw.2.2.2.2.2.2.2.2.2.look x.player hkx; go_simp; try with_reducible rfl
 simp only [sE0, sE1]
 refine take_to 9 15 (bQ 22 767) (v := ?_) o112_1_9 rfl o112_1_ns (by kernel_rfl) (by kernel_rfl) (fun _ _ _ h => h) (by rfl) ?y9r (by assumption) ?_
 case y9r => intro w h; (try dsimp only at h); go_simp; try with_reducible rfl
 simp only [sE0, sE1]
 refine take_to 10 16 (bQ 22 1791) (v := ?_) o112_1_10 rfl o112_1_ns (by kernel_rfl) (by kernel_rfl) (fun _ _ _ h => h) (by rfl) ?y10r (by assumption) ?_
 case y10r => intro w h; (try dsimp only at h); go_simp; try with_reducible rfl
 simp only [sE0, sE1]
 refine take_to 11 17 (bQ 22 3839) (v := ?_) o112_1_11 rfl o112_1_ns (by kernel_rfl) (by kernel_rfl) (fun _ _ _ h => h) (by rfl) ?y11r (by assumption) ?_
 case y11r => intro w h; (try dsimp only at h); go_simp; try with_reducible rfl
 simp only [sE0, sE1]
 refine take_to 12 18 (bQ 22 7935) (v := ?_) o112_1_12 rfl o112_1_ns (by kernel_rfl) (by kernel_rfl) (fun _ _ _ h => h) (by rfl) ?y12r (by assumption) ?_
 case y12r => intro w h; (try dsimp only at h); go_simp; try with_reducible rfl
 simp only [sE0, sE1]
 refine take_to 14 20 (bQ 22 24319) (v := ?_) o112_1_14 rfl o112_1_ns (by kernel_rfl) (by kernel_rfl) (fun _ _ _ h => h) (by rfl) ?y14r (by assumption) ?_
 case y14r => intro w h; (try dsimp only at h); go_simp; try with_reducible rfl
 simp only [sE0, sE1]
 refine take_to 15 21 (bQ 22 57087) (v := ?_) o112_1_15 rfl o112_1_ns (by kernel_rfl) (by kernel_rfl) (fun _ _ _ h => h) (by rfl) ?y15r (by assumption) ?_
 case y15r => intro w h; (try dsimp only at h); go_simp; try with_reducible rfl
 simp only [sE0, sE1]
 refine take_to 16 22 (bQ 22 122623) (v := ?_) o112_1_16 rfl o112_1_ns (by kernel_rfl) (by kernel_rfl) (fun _ _ _ h => h) (by rfl) ?y16r (by assumption) ?_
 case y16r => intro w h; (try dsimp only at h); go_simp; try with_reducible rfl
 simp only [sE0, sE1]
 refine take_to 17 23 (bQ 22 253695) (v := ?_) o112_1_17 rfl o112_1_ns (by kernel_rfl) (by kernel_rfl) (fun _ _ _ h => h) (by rfl) ?y17r (by assumption) ?_
 case y17r => intro w h; (try dsimp only at h); go_simp; try with_reducible rfl
 simp only [sE0, sE1]
 refine run_to 8 (bQ 22 253951) o112_1_8 (by kernel_rfl) (by kernel_rfl) (by rfl) (fun K hK => ?_)
 go_simp
 refine (intCmp_calls _ _ _).mono ?_
 rintro e w' ⟨rfl, rfl⟩
 go_wp2_with fail
 refine hK.out _ _ ?_ (fun hHeld => ?_)
 ·(exact HS.out _ (by first | exact hb0 | exact hHeld.2.1 | exact below_step hHeld.2.1 (below_alloc _ _)))
 clear hK K
 try simp only [Act.put, sEt, sE0, sE1]
 refine run_to 13 (bQ 22 262143) o112_1_13 (by kernel_rfl) (by kernel_rfl) (by rfl) (fun K hK => ?_)
 go_simp
 refine (intCmp_calls _ _ _).mono ?_
 rintro e w' ⟨rfl, rfl⟩
 go_wp2_with fail
 refine hK.out _ _ ?_ (fun hHeld => ?_)
 ·(exact HS.out _ (by first | exact hb0 | exact hHeld.2.1 | exact below_step hHeld.2.1 (below_alloc _ _)))
 clear hK K
 try simp only [Act.put, sEt, sE0, sE1]
 refine run_to 18 (bQ 22 524287) o112_1_18 (by kernel_rfl) (by kernel_rfl) (by rfl) (fun K hK => ?_)
 go_simp
 refine (strCmp_calls _ _ _).mono ?_
 rintro e w' ⟨rfl, rfl⟩
 go_wp2_with fail
 refine hK.out _ _ ?_ (fun hHeld => ?_)
 ·(exact HS.out _ (by first | exact hb0 | exact hHeld.2.1 | exact below_step hHeld.2.1 (below_alloc _ _)))
 clear hK K
 try simp only [Act.put, sEt, sE0, sE1]
 refine run_to 19 (bQ 22 1048575) o112_1_19 (by kernel_rfl) (by kernel_rfl) (by rfl) (fun K hK => ?_)
 go_simp
 refine hK.out _ _ ?_ (fun hHeld => ?_)
 ·(exact HS.out _ (by first | exact hb0 | exact hHeld.2.1 | exact below_step hHeld.2.1 (below_alloc _ _)))
 clear hK K
 try simp only [Act.put, sEt, sE0, sE1]
 refine run_to 20 (bQ 22 2097151) o112_1_20 (by kernel_rfl) (by kernel_rfl) (by rfl) (fun K hK => ?_)
 go_simp
 refine (orInt_calls _ 0 3 [Lib.compareInt ((f y.player).getD 0) ((f x.player).getD 0), Lib.compareInt x.value y.value, cmpS y.player x.player] _ (by simp) (by exact nums3w _ _ _ _ _)).mono ?_
 rintro e w' ⟨rfl, rfl⟩
 go_wp2_with fail
 refine hK.out _ _ ?_ (fun hHeld => ?_)
 ·(exact HS.out _ (by first | exact hb0 | exact hHeld.2.1 | exact below_step hHeld.2.1 (below_alloc _ _)))
 clear hK K
 try simp only [Act.put, sEt, sE0, sE1]
 refine take_to 21 5 (bQ 22 4194303) (v := ?_) o112_1_21 rfl o112_1_ns (by kernel_rfl) (by kernel_rfl) (fun _ _ _ h => h) (by rfl) ?y21r (by assumption) ?_
 case y21r => intro w h; (try dsimp only at h); go_simp; try with_reducible rfl
 simp only [sE0, sE1]
 refine wpAnyH_done (by kernel_rfl) ?_ _
 go_wp2_with fail
 go_ret
 exact ⟨ret_int HR.out.symm, hHeld.1⟩
end Go.Proofs.YtddnnjblpgfjeaaGreatDoor
namespace Go.Proofs.YtddnnjblpgfjeaaGreatDoor
open Go.RowKit

/-- What the others bring without one: the map. -/
def wF (N : ByteArray → Int) (l : List AsD) : ByteArray → Option Int := fun k => if (l.any fun x => beqS x.player k) then some (N k) else none
theorem wF_snoc (N : ByteArray → Int) (l : List AsD) (x : AsD) : wF N (l ++ [x]) = fun k => if beqS x.player k then some (N x.player) else wF N l k := by
 funext k
 unfold wF
 rw [List.any_append, List.any_cons, List.any_nil, Bool.or_false]
 cases h : beqS x.player k
 ·rw [Bool.or_false]; rfl
 ·rw [Bool.or_true, beqS_iff.1 h]; rfl
theorem wF_mem {N : ByteArray → Int} {l : List AsD} {x : AsD} (h : x ∈ l) : (wF N l x.player).getD 0 = N x.player := by
 unfold wF
 rw [List.any_eq_true.2 ⟨x, h, beqS_self _⟩]
 rfl
theorem cmpDrop_congr {n m : AsD → Int} {x y : AsD} (hx : n x = m x) (hy : n y = m y) : cmpDrop n x y = cmpDrop m x y := by
 unfold cmpDrop thenC; simp only [hx, hy]
def WhoIs (who : ByteArray) (b : Bool) (f : Int) (w : World) (e : Ending) (w' : World) : Prop := e = .returned (.tuple #[.string who, .bool b, .int .i64 f]) ∧ Below w.heap.size w w'
theorem drop_wrong (lo lo' : Nat) (v u : Value) (xs : List AsD) (ps : List PlD) (w : World) (hR : Ass w lo v xs) (hs : ∀ c ∈ xs, SmallA c) (hn : xs.length ≤ 1000000) (hP : Pls w lo' u ps) (hp : ∀ c ∈ ps, SmallP c) (hm : ps.length ≤ 1000000) (he : teamE xs ps ≠ 0) :
  Calls Tryz.prog 44 #[v, u] w (WhoIs ⟨#[]⟩ false (teamE xs ps) w) := by
 have D := Lib.hid (wrongTeam_calls lo lo' v u xs ps w hR hs hn hP hp hm)
 obtain ⟨a, c, rfl⟩ := as_shape hR
 obtain ⟨pa, pc, rfl⟩ := pl_shape hP
 generalize teamE xs ps = E at D he ⊢
 generalize xs.length = n at D ⊢
 generalize ps.length = m at D ⊢
 have e1 : (E != 0) = true := by simp [he]
 clear hR hs hn hP hp hm he
 go_enter Tryz.func44, Tryz.ntmps44
 go_wp2_with fail
 refine D.out.mono ?_
 rintro e w1 ⟨rfl, hb1⟩
 clear D
 go_wp2_with fail
 go_ret3
 exact ⟨rfl, hb1⟩
theorem drop_none (lo lo' : Nat) (v u : Value) (ps : List PlD) (w : World) (hR : Ass w lo v []) (hP : Pls w lo' u ps) (hp : ∀ c ∈ ps, SmallP c) (hm : ps.length ≤ 1000000) (he : teamE [] ps = 0) :
  Calls Tryz.prog 44 #[v, u] w (WhoIs ⟨#[]⟩ false 0 w) := by
 have D := Lib.hid (wrongTeam_calls lo lo' v u [] ps w hR (by simp) (by simp) hP hp hm)
 rw [he] at D
 obtain ⟨a, c, rfl⟩ := as_shape hR
 obtain ⟨pa, pc, rfl⟩ := pl_shape hP
 simp only [List.length_nil] at D ⊢
 generalize ps.length = m at D ⊢
 clear hR hP hp hm he
 go_enter Tryz.func44, Tryz.ntmps44
 go_wp2_with fail
 refine D.out.mono ?_
 rintro e w1 ⟨rfl, hb1⟩
 clear D
 go_wp2_with fail
 go_ret3
 exact ⟨rfl, hb1⟩
def o44_11 : Array Go.Oper := #[
 ⟨some 32, .load 129 (.tmp 9), 129, "field.go:52", #[], none⟩,
 ⟨some 33, .fieldAddr 78 (.tmp 11) 0, 0, "field.go:52", #[], none⟩,
 ⟨some 34, .load 9 (.tmp 33), 9, "field.go:52", #[⟨1, .data⟩], none⟩,
 ⟨some 35, .load 142 (.tmp 8), 142, "field.go:52", #[], none⟩,
 ⟨some 36, .fieldAddr 78 (.tmp 11) 0, 0, "field.go:52", #[], none⟩,
 ⟨some 37, .load 9 (.tmp 36), 9, "field.go:52", #[⟨4, .data⟩], none⟩,
 ⟨some 38, .call { callee := .value (.func 110), args := #[.tmp 37], argTypes := #[9] }, 127, "field.go:52", #[⟨5, .data⟩], none⟩,
 ⟨some 39, .call { callee := .value (.func 109), args := #[.tmp 35, .tmp 38], argTypes := #[142, 127] }, 3, "field.go:52", #[⟨3, .data⟩, ⟨6, .data⟩, ⟨6, .chain⟩], none⟩,
 ⟨none, .mapUpdate 129 (.tmp 32) (.tmp 34) (.tmp 39), 0, "field.go:52", #[⟨0, .data⟩, ⟨2, .data⟩, ⟨7, .data⟩, ⟨7, .chain⟩, ⟨0, .phase⟩, ⟨1, .phase⟩, ⟨2, .phase⟩, ⟨3, .phase⟩, ⟨4, .phase⟩, ⟨5, .phase⟩, ⟨6, .phase⟩, ⟨7, .phase⟩], none⟩]
theorem o44_11_0 : o44_11[0]? = some (⟨some 32, .load 129 (.tmp 9), 129, "field.go:52", #[], none⟩ : Go.Oper) := rfl
theorem o44_11_1 : o44_11[1]? = some (⟨some 33, .fieldAddr 78 (.tmp 11) 0, 0, "field.go:52", #[], none⟩ : Go.Oper) := rfl
theorem o44_11_2 : o44_11[2]? = some (⟨some 34, .load 9 (.tmp 33), 9, "field.go:52", #[⟨1, .data⟩], none⟩ : Go.Oper) := rfl
theorem o44_11_3 : o44_11[3]? = some (⟨some 35, .load 142 (.tmp 8), 142, "field.go:52", #[], none⟩ : Go.Oper) := rfl
theorem o44_11_4 : o44_11[4]? = some (⟨some 36, .fieldAddr 78 (.tmp 11) 0, 0, "field.go:52", #[], none⟩ : Go.Oper) := rfl
theorem o44_11_5 : o44_11[5]? = some (⟨some 37, .load 9 (.tmp 36), 9, "field.go:52", #[⟨4, .data⟩], none⟩ : Go.Oper) := rfl
theorem o44_11_6 : o44_11[6]? = some (⟨some 38, .call { callee := .value (.func 110), args := #[.tmp 37], argTypes := #[9] }, 127, "field.go:52", #[⟨5, .data⟩], none⟩ : Go.Oper) := rfl
theorem o44_11_7 : o44_11[7]? = some (⟨some 39, .call { callee := .value (.func 109), args := #[.tmp 35, .tmp 38], argTypes := #[142, 127] }, 3, "field.go:52", #[⟨3, .data⟩, ⟨6, .data⟩, ⟨6, .chain⟩], none⟩ : Go.Oper) := rfl
theorem o44_11_8 : o44_11[8]? = some (⟨none, .mapUpdate 129 (.tmp 32) (.tmp 34) (.tmp 39), 0, "field.go:52", #[⟨0, .data⟩, ⟨2, .data⟩, ⟨7, .data⟩, ⟨7, .chain⟩, ⟨0, .phase⟩, ⟨1, .phase⟩, ⟨2, .phase⟩, ⟨3, .phase⟩, ⟨4, .phase⟩, ⟨5, .phase⟩, ⟨6, .phase⟩, ⟨7, .phase⟩], none⟩ : Go.Oper) := rfl
theorem o44_11_ns : Go.Region.noSelect o44_11 = true := by kernel_rfl
set_option maxRecDepth 100000 in
set_option maxHeartbeats 8000000 in
theorem drop_right (lo lo' : Nat) (v u : Value) (a : AsD) (l : List AsD) (ps : List PlD) (w : World) (hR : Ass w lo v (a :: l)) (hs : ∀ c ∈ a :: l, SmallA c) (hn : (a :: l).length ≤ 12) (hP : Pls w lo' u ps) (hp : ∀ c ∈ ps, SmallP c) (hm : ps.length ≤ 10) (ho : OnceP ps) (hf : ∀ x ∈ a :: l, FitA x) (he : teamE (a :: l) ps = 0) :
  Calls Tryz.prog 44 #[v, u] w (WhoIs (minAs (cmpDrop fun z => sumC (fieldP ps (fun k => !beqS k z.player) (a :: l))) a l).player true 0 w) := by
 have hmm := @run_makeMap Tryz.prog
 have D := Lib.hid (wrongTeam_calls lo lo' v u (a :: l) ps w hR hs (by omega) hP hp (by omega))
 rw [he] at D
 have D2 := Lib.hid (fun (W : World) (h : Below w.heap.size w W) => poolOf_calls lo lo' v u (a :: l) ps W (hR.below h) (hP.below h) hn hs (by omega) hp ho)
 have DB := Lib.hid (fun (k : ByteArray) (W2 : World) (h : Below w.heap.size w W2) (l2 : Nat) (cv : Value) (hC : Cas W2 l2 cv (cands ps (a :: l))) (X : Nat) (hX : W2.cell? ⟨X, 0, none⟩ = some (.string k)) => most_calls l2 lo' u cv ps (cands ps (a :: l)) (fun q => !beqS q k) 149 #[.pointer (some ⟨X, 0, none⟩)] W2 (hP.below h) hC (fun c hc => cands_lt c hc) (by omega) (by have := cands_len ps (a :: l); omega) hp (cands_fit hf) (enters_of Tryz.func149 (by kernel_rfl) rfl) (fun W' q hb => but1_calls X q k W' (below_cell hb hX)))
 change Hid (∀ (k : ByteArray) (W2 : World) (h : Below w.heap.size w W2) (l2 : Nat) (cv : Value) (hC : Cas W2 l2 cv (cands ps (a :: l))) (X : Nat) (hX : W2.cell? ⟨X, 0, none⟩ = some (.string k)), Calls Tryz.prog 109 #[.agg #[u, cv], .func (.func 149) #[] #[.pointer (some ⟨X, 0, none⟩)]] W2 (IntBelow ((fun k => sumC (fieldP ps (fun q => !beqS q k) (a :: l))) k) W2)) at DB
 have HNb := Lib.hid (fun (k : ByteArray) => show -9223372036854775808 ≤ (fun k => sumC (fieldP ps (fun q => !beqS q k) (a :: l))) k ∧ (fun k => sumC (fieldP ps (fun q => !beqS q k) (a :: l))) k ≤ 9223372036854775807 by have := sumF_bound ps (fun q => !beqS q k) (a :: l) hf hn; dsimp only; omega)
 change Calls _ _ _ _ (WhoIs (minAs (cmpDrop fun z => (fun k => sumC (fieldP ps (fun q => !beqS q k) (a :: l))) z.player) a l).player true 0 w)
 generalize (fun k => sumC (fieldP ps (fun q => !beqS q k) (a :: l))) = NN at DB HNb ⊢
 have Hcl := Lib.hid (show (cands ps (a :: l)).length ≤ 12 from Nat.le_trans (cands_len _ _) hn)
 generalize cands ps (a :: l) = CS at D2 DB Hcl
 have HM := Lib.hid (fun (W2 : World) (h : Below w.heap.size w W2) (X b n : Nat) (hX : W2.cell? ⟨X, 0, none⟩ = some (.map (some b))) (hM : IMap W2 b n (wF NN (a :: l))) => minFuncAs_calls (cmpDrop fun z => NN z.player) 112 #[.pointer (some ⟨X, 0, none⟩)] lo v a l W2 (hR.below h) (enters_of Tryz.func112 (by kernel_rfl) rfl) (fun W3 x y hx hy hb => by
  have := drop1_calls X b n (wF NN (a :: l)) x y W3 (below_cell hb hX) (hM.below hb) (hs x hx) (hs y hy)
  rwa [cmpDrop_congr (m := fun z => NN z.player) (wF_mem hx) (wF_mem hy)] at this))
 generalize minAs (cmpDrop fun z => NN z.player) a l = R at HM ⊢
 have Hs := Lib.hid hs
 obtain ⟨n, hnn⟩ : ∃ n, (a :: l).length = n := ⟨_, rfl⟩
 have Hn := Lib.hid hnn
 have hn0 : n ≠ 0 := by rw [← hnn]; simp
 have e2 : ((n : Int) == 0) = false := by rw [beq_eq_false_iff_ne]; omega
 generalize a :: l = xs at *
 have HRat := Lib.hid (as_at hR)
 obtain ⟨va, vc, rfl⟩ := as_shape hR
 obtain ⟨pa, pc, rfl⟩ := pl_shape hP
 rw [hnn] at D D2 HM HRat hn ⊢
 have Hall := Lib.hid (show xs.take n = xs by rw [← hnn, List.take_length])
 obtain ⟨np, hnp⟩ : ∃ np, ps.length = np := ⟨_, rfl⟩
 rw [hnp] at D D2 DB ⊢
 clear hR hs hP hp hm ho hf he hnn hn0 hnp
 go_enter Tryz.func44, Tryz.ntmps44
 go_wp2_with fail
 refine D.out.mono ?_
 rintro e w1 ⟨rfl, hb1⟩
 have E2 := Lib.hid (D2.out _ hb1)
 clear D D2
 go_wp2_with fail
 refine E2.out.mono ?_
 rintro e w2 ⟨cv, rfl, hC, hb2⟩
 have hb02 := below_step hb1 hb2
 obtain ⟨ca, cc, rfl⟩ := ca_shape hC
 generalize CS.length = nc at *
 clear E2 hb1 hb2
 go_upto_region 7 with fail
 obtain ⟨w5, hw5⟩ : ∃ w5, w5 = w2.alloc (.cells #[.slice pa np pc, .slice ca nc cc] 142) := ⟨_, rfl⟩
 have hb25 : Below w2.heap.size w2 w5 := by rw [hw5]; exact below_alloc w2 _
 obtain ⟨g8, hg8e⟩ : ∃ g8, g8 = w2.heap.size := ⟨_, rfl⟩
 have hZ5 : w5.heap[g8]? = some (.cells #[.slice pa np pc, .slice ca nc cc] 142 (0, 0)) := by rw [hw5, hg8e]; exact heap_alloc_new w2 _
 rw [← hw5, ← hg8e]
 have hC5 : Cas w5 0 (.slice ca nc cc) CS := Cas.mono (hC.below hb25) (Nat.zero_le _)
 have hb5 : Below w.heap.size w w5 := below_step hb02 hb25
 clear hC hb02 hw5 hb25 hg8e
 obtain ⟨W6, hW6⟩ : ∃ W6, W6 = (w5.alloc (.map #[] 0)).alloc (.cells #[.map (some w5.heap.size)] 129) := ⟨_, rfl⟩
 have hb56 : Below w5.heap.size w5 W6 := by rw [hW6]; exact below_step (below_alloc w5 _) (below_alloc _ _)
 have hM9 : W6.heap[w5.heap.size + 1]? = some (.cells #[.map (some w5.heap.size)] 129 (0, 0)) := by
  rw [hW6]; have := heap_alloc_new (w5.alloc (.map #[] 0)) (.cells #[.map (some w5.heap.size)] 129); simpa using this
 have hM0 : IMap W6 w5.heap.size 0 (wF NN (xs.take 0)) := by
  rw [hW6]; have := (IMap.made w5).below (below_alloc _ (.cells #[.map (some w5.heap.size)] 129))
  rw [show wF NN (xs.take 0) = fun _ => none from by funext k; simp [wF]]
  exact this
 have HM0 := Lib.hid hM0
 have HM9 := Lib.hid hM9
 have HZ5 := Lib.hid hZ5
 have HC5 := Lib.hid hC5
 clear hM0 hM9 hZ5 hC5
 go_upto_region 8 with fail
 rw [← hW6]
 clear hW6 hmm
 go_wp2_with fail
 go_loopw [28] (fun i wr => ∃ k : Nat, k ≤ n ∧ i = .int .i64 k ∧ Hid (IMap wr w5.heap.size k (wF NN (xs.take k))) ∧ Hid (wr.heap[w5.heap.size + 1]? = some (.cells #[.map (some w5.heap.size)] 129 (0, 0))) ∧ Below w5.heap.size w5 wr) (fun i _ => n - (intOf i).toNat)
 case atStart => exact ⟨0, Nat.zero_le _, rfl, HM0, HM9, hb56⟩
 case round =>
  clear HM0 HM9 hb56; obtain ⟨k, hk, rfl, HMr, H9, hb⟩ := hrel; by_cases hlt : k < n
  ·obtain ⟨x, hx⟩ : ∃ x, xs[k]? = some x := ⟨_, List.getElem?_eq_getElem (by rw [Hn.out]; exact hlt)⟩
   have hsx := Hs.out x (List.mem_of_getElem? hx); have hkx : x.player.size ≤ 1000000 := Nat.le_trans hsx.1 (by decide)
   have Hst := Lib.hid (show wF NN (xs.take (k + 1)) = fun q => if beqS x.player q then some (NN x.player) else wF NN (xs.take k) q by rw [take_snocG hx, wF_snoc])
   rcases HRat.out with ⟨_, h⟩ | ⟨g, off, cap, e, _, hgl, _, hcell⟩
   ·rw [h] at hx; simp at hx
   simp only [Value.slice.injEq] at e
   obtain ⟨rfl, -, rfl⟩ := e; obtain ⟨q0, q1, q2⟩ := hcell k x hx; have hbr := below_step hb5 hb; have p0 := below_cell hbr q0; have p1 := below_cell hbr q1; have p2 := below_cell hbr q2; clear hx hcell q0 q1 q2 hsx; go_upto_region 11 with fail
   obtain ⟨wA, hwA⟩ : ∃ wA, wA = wr.alloc (.cells #[.string x.player, .string x.pos, .int .i64 x.value] 78) := ⟨_, rfl⟩
   obtain ⟨X11, hX11⟩ : ∃ X11, X11 = wr.heap.size := ⟨_, rfl⟩
   have hbA : Below wr.heap.size wr wA := by rw [hwA]; exact below_alloc wr _
   have hx11 : wA.heap[X11]? = some (.cells #[.string x.player, .string x.pos, .int .i64 x.value] 78 (0, 0)) := by rw [hwA, hX11]; exact heap_alloc_new wr _
   rw [← hwA, ← hX11]; have hb5A := below_step hb hbA; have hbwA := below_step hb5 hb5A; have HMA := Lib.hid (HMr.out.below hbA); have H9A := Lib.hid (cells_later H9.out hbA); have hmlt := HMr.out.lt; have h8lt := lt_of_heap HZ5.out; have v0 := cell_at H9A.out 0 rfl; have v1 := cell_at hx11 0 rfl; have hz5A := cells_later HZ5.out hb5A; have v2 := cell_at hz5A 0 rfl; have v3 := cell_at hz5A 1 rfl; have HS := Lib.hid (show ∀ w', wA.grownBy w' (some w5.heap.size) → (Below w5.heap.size w5 w' ∧ w'.cell? ⟨w5.heap.size + 1, 0, none⟩ = some (.map (some w5.heap.size)) ∧ w'.cell? ⟨X11, 0, none⟩ = some (.string x.player) ∧ w'.cell? ⟨g8, 0, none⟩ = some (.slice pa np pc) ∧ w'.cell? ⟨g8, 1, none⟩ = some (.slice ca nc cc)) from fun w' hg => ⟨below_gbG hb5A hg (Nat.le_refl _), gb_cell hg v0 (by omega), gb_cell hg v1 (by omega), gb_cell hg v2 (by omega), gb_cell hg v3 (by omega)⟩)
   have hbd := (Below.refl wA.heap.size wA).drew; have hC5 := HC5.out; clear hwA hX11 hx11 hbA hz5A v0 v1 v2 v3 p0 p1 p2 HMr H9 hb; show Code.wp _ (Code.region 11 o44_11 true) _ _ _
   refine region_start 9 (fun w' => Below w5.heap.size w5 w' ∧ w'.cell? ⟨w5.heap.size + 1, 0, none⟩ = some (.map (some w5.heap.size)) ∧ w'.cell? ⟨X11, 0, none⟩ = some (.string x.player) ∧ w'.cell? ⟨g8, 0, none⟩ = some (.slice pa np pc) ∧ w'.cell? ⟨g8, 1, none⟩ = some (.slice ca nc cc)) (by kernel_rfl) rfl ?_ (fun hHeld => ?_)
   ·(exact HS.out _ (by first | exact hg8 | exact gb_below hb7 _ | exact gb_below hb6 _ | exact gb_below hbd _))
   refine take_to 0 32 (bQ 9 1) (v := ?_) o44_11_0 rfl o44_11_ns (by kernel_rfl) (by kernel_rfl) (fun _ _ _ h => h) (by rfl) ?y0a (by assumption) ?_
   case y0a => intro w h; (try dsimp only at h); go_simp; try with_reducible rfl
   simp only [sE0, sE1]; refine take_to 1 33 (bQ 9 3) (v := ?_) o44_11_1 rfl o44_11_ns (by kernel_rfl) (by kernel_rfl) (fun _ _ _ h => h) (by rfl) ?y1a (by assumption) ?_
   case y1a => intro w h; (try dsimp only at h); go_simp; try with_reducible rfl
   simp only [sE0, sE1]; refine take_to 2 34 (bQ 9 7) (v := ?_) o44_11_2 rfl o44_11_ns (by kernel_rfl) (by kernel_rfl) (fun _ _ _ h => h) (by rfl) ?y2a (by assumption) ?_
   case y2a => intro w h; (try dsimp only at h); go_simp; try with_reducible rfl
   simp only [sE0, sE1]; refine take_to 3 35 (bQ 9 15) (v := ?_) o44_11_3 rfl o44_11_ns (by kernel_rfl) (by kernel_rfl) (fun _ _ _ h => h) (by rfl) ?y3a (by assumption) ?_
   case y3a => intro w h; (try dsimp only at h); go_simp; try with_reducible rfl
   simp only [sE0, sE1]; refine take_to 4 36 (bQ 9 31) (v := ?_) o44_11_4 rfl o44_11_ns (by kernel_rfl) (by kernel_rfl) (fun _ _ _ h => h) (by rfl) ?y4a (by assumption) ?_
   case y4a => intro w h; (try dsimp only at h); go_simp; try with_reducible rfl
   simp only [sE0, sE1]; refine take_to 5 37 (bQ 9 63) (v := ?_) o44_11_5 rfl o44_11_ns (by kernel_rfl) (by kernel_rfl) (fun _ _ _ h => h) (by rfl) ?y5a (by assumption) ?_
   case y5a => intro w h; (try dsimp only at h); go_simp; try with_reducible rfl
   simp only [sE0, sE1]; refine run_to 6 (bQ 9 127) o44_11_6 (by kernel_rfl) (by kernel_rfl) (by rfl) (fun K hK => ?_)
   go_simp; refine (but_calls _ _).mono ?_; rintro e w' ⟨rfl, hbh, hcap⟩; have hb6 := below_step hbd hbh; go_wp2_with fail
   refine hK.out _ _ ?_ (fun hHeld => ?_)
   ·(exact HS.out _ (by first | exact hg8 | exact gb_below hb7 _ | exact gb_below hb6 _ | exact gb_below hbd _))
   clear hK K; try simp only [Act.put, sEt, sE0, sE1]
   refine run_to 7 (bQ 9 255) o44_11_7 (by kernel_rfl) (by kernel_rfl) (by rfl) (fun K hK => ?_)
   go_simp; refine (DB.out x.player _ (below_step hbwA hb6) _ _ (hC5.below (below_step hb5A hb6)) _ hcap).mono ?_; rintro e w' ⟨rfl, hbh⟩; have hb7 := below_step hb6 hbh; go_wp2_with fail
   refine hK.out _ _ ?_ (fun hHeld => ?_)
   ·(exact HS.out _ (by first | exact hg8 | exact gb_below hb7 _ | exact gb_below hb6 _ | exact gb_below hbd _))
   clear hK K; try simp only [Act.put, sEt, sE0, sE1]
   refine run_to 8 (bQ 9 511) o44_11_8 (by kernel_rfl) (by kernel_rfl) (by rfl) (fun K hK => ?_)
   obtain ⟨wp, hput, hMp, hgp⟩ := (HMA.out.below hb7).put (by omega) x.player (by omega) _ (HNb.out x.player)
   have hg8 := gb_trans (gb_below hb7 (some w5.heap.size)) hgp; go_simp; refine hK.out _ _ ?_ (fun hHeld => ?_)
   ·(exact HS.out _ (by first | exact hg8 | exact gb_below hb7 _ | exact gb_below hb6 _ | exact gb_below hbd _))
   clear hK K; try simp only [sEt, sE0, sE1]
   refine wpAnyH_done (by kernel_rfl) ?_ _
   rw [← Hst.out] at hMp
   have HMp := Lib.hid hMp; have H9p := Lib.hid (heap_gbG (cells_later H9A.out hb7) hgp (by omega))
   have hbe := hHeld.1; clear hHeld HS hbd hb6 hb7 hg8 hgp hput hMp hC5 HMA H9A; go_wp2_with fail
   go_roundw
   case rel => exact ⟨k + 1, by omega, by go_num, HMp, H9p, hbe⟩
   case measure => simp [intOf]; omega
  ·obtain rfl : k = n := by omega
   rw [Hall.out] at HMr
   have v0 := cell_at H9.out 0 rfl; have E3 := Lib.hid (HM.out wr (below_step hb5 hb) _ _ _ v0 HMr.out); have hbr := below_step hb5 hb; clear HM HMr H9 v0 hb; go_wp2_with fail
   refine E3.out.mono ?_; rintro e w7 ⟨rfl, hb7⟩; have hbe := below_step hbr hb7; go_wp2_with fail
   go_ret3
   exact ⟨rfl, below_step hbe (below_alloc _ _)⟩
end Go.Proofs.YtddnnjblpgfjeaaGreatDoor
