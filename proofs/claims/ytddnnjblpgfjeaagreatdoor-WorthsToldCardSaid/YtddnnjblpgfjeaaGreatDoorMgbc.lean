/- Brings and Drop in one form each. -/
import Derived.Test.YtddnnjblpgfjeaaGreatDoorMgau
import Derived.Test.YtddnnjblpgfjeaaGreatDoorMgay
import Derived.Test.YtddnnjblpgfjeaaGreatDoorMgar
import Derived.Test.YtddnnjblpgfjeaaGreatDoorMgal
import Derived.Test.YtddnnjblpgfjeaaGreatDoorMgao
import Derived.Test.YtddnnjblpgfjeaaGreatDoorMgac
import Derived.Test.YtddnnjblpgfjeaaGreatDoorMgae
import Derived.Test.YtddnnjblpgfjeaaGreatDoorMgas
/- What a pool brings. -/
namespace Go.Proofs.YtddnnjblpgfjeaaGreatDoor
open Go.RowKit

theorem fldP_len (p : List PlD) (has : ByteArray → Bool) : ∀ (cs : List (AsD × Nat)) (m : List Nat), (fldP p has cs m).length ≤ cs.length
 | [], _ => by simp [fldP]
 | c :: cs, m => by
  unfold fldP; split
  ·have := fldP_len p has cs (m.set c.2 (m[c.2]?.getD 0 + 1)); simp; omega
  ·have := fldP_len p has cs m; simp; omega
theorem everybody_calls (k : ByteArray) (w : World) : Calls Tryz.prog 106 #[.string k] w (BoolIs true w) := by
 go_enter Tryz.func106, Tryz.ntmps106
 go_wp2_with fail
 go_ret
 exact ⟨rfl, Below.refl _ _⟩
def sumC (cs : List (AsD × Nat)) : Int := sumV (cs.map Prod.fst)
theorem sumC_snoc {cs : List (AsD × Nat)} {k : Nat} {c : AsD × Nat} (h : cs[k]? = some c) : sumC (cs.take (k + 1)) = sumC (cs.take k) + c.1.value := by
 unfold sumC
 rw [take_snocG h, List.map_append]
 exact sumV_one _ _
theorem sumC_bound (cs : List (AsD × Nat)) (h : ∀ c ∈ cs, FitA c.1) (hl : cs.length ≤ 1000) (k : Nat) : -1000000000 ≤ sumC (cs.take k) ∧ sumC (cs.take k) ≤ 1000000000 := by
 have h1 := sumV_bound ((cs.take k).map Prod.fst) (fun x hx => by
  obtain ⟨c, hc, rfl⟩ := List.mem_map.1 hx; exact h c (List.mem_of_mem_take hc))
 have h2 : ((cs.take k).map Prod.fst).length ≤ 1000 := by rw [List.length_map, List.length_take]; omega
 unfold sumC
 omega
end Go.Proofs.YtddnnjblpgfjeaaGreatDoor
/- Fielded. -/
namespace Go.Proofs.YtddnnjblpgfjeaaGreatDoor
open Go.RowKit

theorem cands_len (p : List PlD) (l : List AsD) : (cands p l).length ≤ l.length := by
 unfold cands
 refine Nat.le_trans (List.length_filterMap_le _ _) ?_
 rw [(rank_perm l).length_eq]
 exact Nat.le_refl _
theorem cands_mem {p : List PlD} {l : List AsD} {c : AsD × Nat} (h : c ∈ cands p l) : c.1 ∈ l := by
 unfold cands at h
 obtain ⟨x, hx, he⟩ := List.mem_filterMap.1 h
 have hx' := (rank_perm l).mem_iff.1 hx
 unfold candOf at he
 split at he
 ·obtain ⟨i, _, rfl⟩ := Option.map_eq_some_iff.1 he
  exact hx'
 ·cases he
def TheAll : ByteArray → Bool := fun _ => true
def ThreeOf (s : Int) (ks : List ByteArray) (w : World) (e : Ending) (w' : World) : Prop := ∃ v, e = .returned (.tuple #[.int .i64 s, v, .int .i64 0]) ∧ OwnSt w' w.heap.size v ks ∧ Below w.heap.size w w'
theorem fieldedF_right (lo lo' : Nat) (v u : Value) (xs : List AsD) (ps : List PlD) (w : World) (hR : Ass w lo v xs) (hs : ∀ c ∈ xs, SmallA c) (hn : xs.length ≤ 12) (hP : Pls w lo' u ps) (hp : ∀ c ∈ ps, SmallP c) (hm : ps.length ≤ 10) (ho : OnceP ps) (hf : ∀ x ∈ xs, FitA x) (he : teamE xs ps = 0) :
  Calls Tryz.prog 42 #[v, u] w (ThreeOf (sumC (fieldP ps TheAll xs)) (sortL (namesA ((fieldP ps TheAll xs).map Prod.fst))) w) := by
 obtain ⟨i0, hi, hz0, hz1, hz2⟩ := info_parts info_str
 have D := Lib.hid (wrongTeam_calls lo lo' v u xs ps w hR hs (by omega) hP hp (by omega))
 rw [he] at D
 have D2 := Lib.hid (fun (W : World) (h : Below w.heap.size w W) => poolOf_calls lo lo' v u xs ps W (hR.below h) (hP.below h) hn hs (by omega) hp ho)
 have D3 := Lib.hid (fun (W : World) (h : Below w.heap.size w W) (l : Nat) (cv : Value) (hC : Cas W l cv (cands ps xs)) => fielded_calls l lo' u cv ps (cands ps xs) TheAll 106 #[] W (hP.below h) hC (fun c hc => cands_lt c hc) (by omega) (by have := cands_len ps xs; omega) hp (enters_of Tryz.func106 (by kernel_rfl) rfl) (fun W' k _ => by rw [Array.append_empty]; exact everybody_calls k W'))
 have hFl : (fieldP ps TheAll xs).length ≤ 12 := Nat.le_trans (fldP_len _ _ _ _) (Nat.le_trans (cands_len ps xs) hn)
 have hFm : ∀ c ∈ fieldP ps TheAll xs, FitA c.1 := fun c hc => hf _ (cands_mem (fldP_sub _ _ _ _ c hc))
 have hCl := Lib.hid (show (cands ps xs).length ≤ 12 from Nat.le_trans (cands_len ps xs) hn)
 change Hid (∀ (W : World) (h : Below w.heap.size w W) (l : Nat) (cv : Value) (hC : Cas W l cv (cands ps xs)), Calls Tryz.prog 105 #[.agg #[u, cv], .func (.func 106) #[] #[]] W (MadeCa (fieldP ps TheAll xs) W)) at D3
 generalize fieldP ps TheAll xs = FP at D3 hFl hFm ⊢
 generalize cands ps xs = CS at D2 D3 hCl
 have HB := Lib.hid (sumC_bound FP hFm (by omega))
 have HFm := Lib.hid hFm
 obtain ⟨a, c, rfl⟩ := as_shape hR
 obtain ⟨pa, pc, rfl⟩ := pl_shape hP
 generalize xs.length = nx at D D2 D3 ⊢
 generalize ps.length = np at D D2 D3 ⊢
 obtain ⟨n, hnn⟩ : ∃ n, FP.length = n := ⟨_, rfl⟩
 have Hn := Lib.hid hnn
 have Hall := Lib.hid (show FP.take n = FP by rw [← hnn, List.take_length])
 have hn2 : n ≤ 12 := by omega
 clear hR hs hn hP hp hm ho hf he hFl hFm hnn
 go_enter Tryz.func42, Tryz.ntmps42
 go_wp2_with fail
 refine D.out.mono ?_
 rintro e w1 ⟨rfl, hb1⟩
 have E2 := Lib.hid (D2.out _ hb1)
 clear D D2
 go_wp2_with fail
 refine E2.out.mono ?_
 rintro e w2 ⟨cv, rfl, hC, hb2⟩
 have hb02 := below_step hb1 hb2
 have E3 := Lib.hid (D3.out _ hb02 _ cv hC)
 obtain ⟨ca, cc, rfl⟩ := ca_shape hC
 generalize CS.length = nc at E3 ⊢
 clear E2 D3 hC hb2 hb1
 go_wp2_with fail
 refine E3.out.mono ?_
 rintro e w3 ⟨v3, hown, rfl, hb3⟩
 have hb03 := below_step hb02 hb3
 have hA := ca_of_owns hown (by rw [Hn.out]; omega)
 have HCat := Lib.hid (show Cas w3 0 v3 FP from hA.mono (Nat.zero_le _))
 obtain ⟨va, vc, rfl⟩ := ca_shape hA
 rw [Hn.out] at HCat ⊢
 clear hown hA E3 hb3 hb02
 go_wp2_with fail
 go_loopw [8, 9, 23] (fun s o i wr => ∃ k : Nat, k ≤ n ∧ i = .int .i64 k ∧ s = .int .i64 (sumC (FP.take k)) ∧ Hid (OwnSt wr w.heap.size o (namesA ((FP.take k).map Prod.fst))) ∧ Hid (Cas wr 0 (.slice va n vc) FP) ∧ Below w.heap.size w wr) (fun _ _ i _ => n - (intOf i).toNat)
 case atStart => exact ⟨0, Nat.zero_le _, rfl, by simp [sumC, sumV], Lib.hid (by simpa [namesA, OwnSt] using World.ownsRow_nil _ _ _ _), HCat, hb03⟩
 case round =>
  clear HCat hb03; obtain ⟨k, hk, rfl, rfl, Hown, HC, hb⟩ := hrel; by_cases hlt : k < n
  ·obtain ⟨c, hc⟩ : ∃ c, FP[k]? = some c := ⟨_, List.getElem?_eq_getElem (by rw [Hn.out]; exact hlt)⟩
   rcases ca_at HC.out with ⟨_, h⟩ | ⟨g, off, cap, e, _, hgl, _, hcell⟩
   ·rw [h] at hc; simp at hc
   simp only [Value.slice.injEq] at e
   obtain ⟨rfl, -, rfl⟩ := e; obtain ⟨p0, p1, p2, p3⟩ := hcell k c hc; have HS := Lib.hid (sumC_snoc hc); have HN := Lib.hid (show namesA ((FP.take (k + 1)).map Prod.fst) = namesA ((FP.take k).map Prod.fst) ++ [c.1.player] by rw [take_snocG hc]; unfold namesA; simp)
   obtain ⟨hc1, hc2⟩ := HB.out k; obtain ⟨hc3, hc4⟩ := HB.out (k + 1); rw [HS.out] at hc3 hc4
   generalize sumC (FP.take k) = s0 at HS hc1 hc2 hc3 hc4 ⊢
   have hkl : (namesA ((FP.take k).map Prod.fst)).length ≤ 12 := by unfold namesA; rw [List.length_map, List.length_map, List.length_take]; omega
   generalize namesA ((FP.take k).map Prod.fst) = KS at Hown HN hkl
   have hown := Hown.out; unfold OwnSt at hown
   have hownB := World.ownsRow.alloc (World.ownsRow.alloc hown (.cells #[.string c.1.player, .string c.1.pos, .int .i64 c.1.value, .int .i64 ((c.2 : Nat) : Int)] 146)) (.cells #[.string c.1.player] 9); have hbB := below_step hb (below_alloc wr (.cells #[.string c.1.player, .string c.1.pos, .int .i64 c.1.value, .int .i64 ((c.2 : Nat) : Int)] 146)); clear hc hcell hown; go_wp2_with (at_builtin; refine wpList_append_own _ rfl _ _ 26 rfl w.heap.size 9 i0 (.string ⟨#[]⟩) 1 16 Tryz.underlying26 hi hz0 hz1 hz2 rfl (by decide) _ _ _ rfl hownB ⟨_, 0, none⟩ 1 1 [.string c.1.player] rfl rfl ?c1 ?c2 ?c3 ?c4 ?c5 ?_)
   case c1 => have h := cells_newG (wr.alloc (.cells #[.string c.1.player, .string c.1.pos, .int .i64 c.1.value, .int .i64 ((c.2 : Nat) : Int)] 146)) [.string c.1.player] 9; simpa using h
   case c2 => simp [Value.oneCell']
   case c3 => unfold maxLen; omega
   case c4 => omega
   case c5 => have := hb.size; simp; omega
   intro v' w5 hown5 hgrow _; have Hf := Lib.hid (below_step hbB (below_alloc _ (.cells #[.string c.1.player] 9))); have hb5 : Below w.heap.size w w5 := Hf.out.grown hgrow Hf.out.size fun r hr => (own_block hownB r hr).1
   have HR5 : Hid (Cas w5 0 (.slice (some ⟨g, off, none⟩) n vc) FP) := Lib.hid (Rows.row ((HC.out.below (below_alloc wr (.cells #[.string c.1.player, .string c.1.pos, .int .i64 c.1.value, .int .i64 ((c.2 : Nat) : Int)] 146))).below (below_alloc _ (.cells #[.string c.1.player] 9))) hgrow fun r hr => by
    obtain ⟨_, cur, hc⟩ := own_block hownB r hr; exact ⟨cur, _, _, hc, by decide⟩)
   have HO5 : Hid (OwnSt w5 w.heap.size v' (namesA ((FP.take (k + 1)).map Prod.fst))) := Lib.hid (by
    rw [HN.out]; unfold OwnSt
    rw [List.length_append, List.map_append]; exact hown5)
   clear hgrow hown5 hownB Hf; go_wp2_with fail
   go_roundw
   case rel => exact ⟨k + 1, by omega, by go_num, by rw [HS.out], HO5, HR5, hb5⟩
   case measure => simp [intOf]; omega
  ·obtain rfl : k = n := by omega
   rw [Hall.out] at Hown ⊢
   have D := Lib.hid (sortS_calls w.heap.size _ (namesA (FP.map Prod.fst)) wr Hown.out (by unfold namesA; rw [List.length_map, List.length_map, Hn.out]; omega))
   have Hob := Lib.hid (fun r hr => (own_block Hown.out r hr).1)
   clear Hown HC; go_wp2_with fail
   refine D.out.mono ?_; rintro e w2 ⟨rfl, hown, hg⟩; have hb2 := hb.grown hg hb.size Hob.out; clear D hg; go_wp2_with fail
   go_ret3
   exact ⟨_, rfl, hown, hb2⟩
end Go.Proofs.YtddnnjblpgfjeaaGreatDoor
/- Whom to drop: the program's way. -/
namespace Go.Proofs.YtddnnjblpgfjeaaGreatDoor
open Go.RowKit

theorem then_first3 {a b c : Int} : firstE [a, b, c] = if a = 0 then (if b = 0 then c else b) else a := by
 unfold firstE firstE firstE firstE
 split
 ·split
  ·split
   ·rename_i h; exact h.symm
   ·rfl
  ·rfl
 ·rfl
end Go.Proofs.YtddnnjblpgfjeaaGreatDoor
/- Right teams, and that both ways agree. -/
namespace Go.Proofs.YtddnnjblpgfjeaaGreatDoor
open Go.RowKit

theorem firstE_zG : ∀ {l : List Int}, firstE l = 0 → ∀ x ∈ l, x = 0 := by
 intro l
 induction l with
 | nil => intro _ x hx; cases hx
 | cons y l ih =>
  intro h; unfold firstE at h
  by_cases hy : y = 0
  ·rw [if_pos hy] at h
   intro x hx; rcases List.mem_cons.1 hx with rfl | hx
   ·exact hy
   ·exact ih h x hx
  ·rw [if_neg hy] at h; exact absurd h hy
theorem eachE_zG {n : Nat} {most : Int} {f : Nat → Int} (h : eachE n most f = 0) : (n : Int) ≤ most ∧ ∀ i, i < n → f i = 0 := by
 unfold eachE at h
 by_cases hm : most < (n : Int)
 ·rw [if_pos hm] at h; cases h
 ·rw [if_neg hm] at h
  refine ⟨by omega, fun i hi => firstE_zG h _ (List.mem_map.2 ⟨i, List.mem_range.2 (by simpa using hi), rfl⟩)⟩
theorem unlessE_zG {b : Bool} {e : Int} (he : e ≠ 0) (h : unlessE b e = 0) : b = true := by
 cases b
 ·simp [unlessE] at h; exact absurd h he
 ·rfl
theorem chain_lt {f : Nat → ByteArray} {n : Nat} (h : ∀ i, i < n → i ≠ 0 → ltS (f (i - 1)) (f i) = true) : ∀ j, j < n → ∀ i, i < j → ltS (f i) (f j) = true := by
 intro j
 induction j with
 | zero => intro _ i hi; omega
 | succ j ih =>
  intro hj i hi; have h1 := h (j + 1) hj (by omega)
  rw [Nat.add_sub_cancel] at h1
  by_cases e : i = j
  ·rw [e]; exact h1
  ·exact ltS_trans (ih (by omega) i (by omega)) h1
theorem asR {xs : List AsD} (h : chkA xs = 0) : (∀ x ∈ xs, keyB x.player = true ∧ FitA x) ∧ RiseA xs := by
 obtain ⟨_, h2⟩ := eachE_zG h
 refine ⟨fun x hx => ?_, ?_⟩
 ·obtain ⟨i, hi⟩ := List.getElem?_of_mem hx
  have h3 := h2 i (List.getElem?_eq_some_iff.1 hi).1; unfold asF at h3
  rw [asAt_some hi] at h3
  have hk := unlessE_zG (by omega) (firstE_zG h3 (unlessE (keyB x.player) 5) (by simp))
  have hb := unlessE_zG (by omega) (firstE_zG h3 (unlessE (betwB x.value (-1000000) 1000000) 1) (by simp))
  unfold betwB at hb
  simp only [Bool.and_eq_true, decide_eq_true_eq] at hb
  exact ⟨hk, hb⟩
 ·have hc := chain_lt (f := fun i => (asAt xs i).player) (n := xs.length) fun i hi h0 => by
   have h3 := h2 i hi; unfold asF at h3
   have ho := unlessE_zG (by omega) (firstE_zG h3 (unlessE (decide (i = 0) || ltS (asAt xs (i - 1)).player (asAt xs i).player) 7) (by simp))
   rw [decide_eq_false h0, Bool.false_or] at ho
   exact ho
  unfold RiseA; rw [List.pairwise_iff_getElem]; intro i j hi hj hij; have := hc j hj i hij
  rw [asAt_some (List.getElem?_eq_getElem hi), asAt_some (List.getElem?_eq_getElem hj), ← cmpS_neg] at this
  exact of_decide_eq_true this
theorem plR {ps : List PlD} (h : chkP ps = 0) : (∀ y ∈ ps, 0 ≤ y.many ∧ y.many ≤ 12) ∧ ps.length ≤ 10 ∧ OnceP ps := by
 obtain ⟨h1, h2⟩ := eachE_zG h
 refine ⟨fun y hy => ?_, by omega, ?_⟩
 ·obtain ⟨i, hi⟩ := List.getElem?_of_mem hy
  have h3 := h2 i (List.getElem?_eq_some_iff.1 hi).1; unfold plF at h3
  rw [plAtt_some hi] at h3
  have hb := unlessE_zG (by omega) (firstE_zG h3 (unlessE (betwB y.many 0 12) 1) (by simp))
  unfold betwB at hb
  simp only [Bool.and_eq_true, decide_eq_true_eq] at hb
  exact hb
 ·have hc := chain_lt (f := fun i => (plAtt ps i).pos) (n := ps.length) fun i hi h0 => by
   have h3 := h2 i hi; unfold plF at h3
   have ho := unlessE_zG (by omega) (firstE_zG h3 (unlessE (decide (i = 0) || ltS (plAtt ps (i - 1)).pos (plAtt ps i).pos) 7) (by simp))
   rw [decide_eq_false h0, Bool.false_or] at ho
   exact ho
  intro i j x y hx hy e; have hi := (List.getElem?_eq_some_iff.1 hx).1; have hj := (List.getElem?_eq_some_iff.1 hy).1; rcases Nat.lt_trichotomy i j with hlt | rfl | hlt
  ·have := hc j hj i hlt
   rw [plAtt_some hx, plAtt_some hy, e, ltS_irrefl] at this
   cases this
  ·rfl
  ·have := hc i hi j hlt
   rw [plAtt_some hx, plAtt_some hy, e, ltS_irrefl] at this
   cases this
theorem teamR {xs : List AsD} {ps : List PlD} (h : teamE xs ps = 0) : chkA xs = 0 ∧ chkP ps = 0 := ⟨firstE_zG h _ (by simp), firstE_zG h _ (by simp)⟩
theorem RiseA.once {xs : List AsD} (h : RiseA xs) : OnceA xs := once_of h.nodup
theorem sumC_all {ps : List PlD} {xs : List AsD} (hp : OnceP ps) (ho : OnceA xs) : sumC (fieldP ps TheAll xs) = sumV (fieldR xs ps) := by
 have h := field_perm hp ho TheAll
 have e : (xs.filter fun x => TheAll x.player) = xs := List.filter_eq_self.2 fun _ _ => rfl
 rw [e] at h
 exact sumV_perm h
theorem names_all {ps : List PlD} {xs : List AsD} (hp : OnceP ps) (ho : OnceA xs) : sortL (namesA ((fieldP ps TheAll xs).map Prod.fst)) = sortL (namesA (fieldR xs ps)) := by
 have h := field_perm hp ho TheAll
 have e : (xs.filter fun x => TheAll x.player) = xs := List.filter_eq_self.2 fun _ _ => rfl
 rw [e] at h
 exact sortL_perm (h.map AsD.player)
end Go.Proofs.YtddnnjblpgfjeaaGreatDoor
namespace Go.Proofs.YtddnnjblpgfjeaaGreatDoor
open Go.RowKit

theorem smallP_of {ps : List PlD} {xs : List AsD} (h : teamE xs ps = 0) : (∀ y ∈ ps, 0 ≤ y.many ∧ y.many ≤ 12) ∧ ps.length ≤ 10 ∧ OnceP ps := plR (teamR h).2
theorem fit_of {xs : List AsD} {ps : List PlD} (h : teamE xs ps = 0) : ∀ x ∈ xs, FitA x := fun x hx => ((asR (teamR h).1).1 x hx).2
theorem rise_of {xs : List AsD} {ps : List PlD} (h : teamE xs ps = 0) : RiseA xs := (asR (teamR h).1).2
end Go.Proofs.YtddnnjblpgfjeaaGreatDoor
