/- The one example. -/
import Derived.Test.YtfcaokpadodijaaGreatMgan
import Derived.Test.YtfcaokpadodijaaGreatMgao
import Derived.Test.YtfcaokpadodijaaGreatMgaa
import Derived.Test.YtfcaokpadodijaaGreatMgal
import Derived.Deep.CutRange
import Derived.Test.YtfcaokpadodijaaGreatMgac
import Derived.Test.YtfcaokpadodijaaGreatMgam
import Derived.Test.YtfcaokpadodijaaGreatMgak
import Derived.Laws.ResultCell
import Derived.Test.YtfcaokpadodijaaGreatMgaj
/- Who suits a slot: the program's way and the reference's. -/
namespace Go.Proofs.YtfcaokpadodijaaGreat
open Go.RowKit

def IdxFirstS (p : ByteArray → Bool) (ks : List ByteArray) (w : World) (e : Ending) (w' : World) : Prop :=
 ((e = .returned (.int .i64 (-1)) ∧ ∀ k ∈ ks, p k = false) ∨ ∃ i k, e = .returned (.int .i64 ((i : Nat) : Int)) ∧ ks[i]? = some k ∧ p k = true ∧ ∀ j g, j < i → ks[j]? = some g → p g = false) ∧ Below w.heap.size w w'
set_option maxRecDepth 100000 in
set_option maxHeartbeats 1000000 in
theorem indexSF_calls (g : Nat) (caps : Array Value) (p : ByteArray → Bool) (lo : Nat) (v : Value) (ks : List ByteArray) (w : World) (hv : Strs w lo v ks) (eg : ∀ args w, (callFunc g args).run Tryz.prog w = .ok (.enter g args) w)
  (hp : ∀ (W : World) (k : ByteArray), k ∈ ks → Below w.heap.size w W → Calls Tryz.prog g (#[.string k] ++ caps) W (BoolIs (p k) W)) :
  Calls Tryz.prog 89 #[v, .func (.func g) #[] caps] w (IdxFirstS p ks w) := by
 have Hp := Lib.hid hp
 clear hp
 rcases strs_at hv with ⟨rfl, rfl⟩ | ⟨gg, off, cap, rfl, hlo, hg, hn, hcell⟩
 ·clear hv
  go_enter Tryz.func89, Tryz.ntmps89; go_wp2_with fail
  refine wp_loop_rounds 1 ?_; rw [rounds_succ]; go_wp2_with fail
  go_ret
  exact ⟨.inl ⟨rfl, by simp⟩, Below.refl _ _⟩
 ·have Hc := Lib.hid hcell
  clear hv hcell; go_enter Tryz.func89, Tryz.ntmps89; go_wp2_with fail
  go_loopw [8] (fun i wr => ∃ k : Nat, k ≤ ks.length ∧ i = .int .i64 k ∧ Hid (∀ j g, j < k → ks[j]? = some g → p g = false) ∧ Below w.heap.size w wr) (fun i _ => ks.length - (intOf i).toNat)
  case atStart => exact ⟨0, Nat.zero_le _, rfl, Lib.hid fun _ _ h => by omega, Below.refl _ _⟩
  case round =>
   obtain ⟨k, hk, rfl, H0, hb⟩ := hrel; by_cases hlt : k < ks.length
   ·obtain ⟨f, hf⟩ : ∃ f, ks[k]? = some f := ⟨ks[k], List.getElem?_eq_getElem hlt⟩
    have g0 := below_cell hb (Hc.out k f hf); have Hf := Lib.hid hf; clear hf; go_wp2_with fail
    refine (Hp.out _ f (List.mem_of_getElem? Hf.out) hb).mono ?_; rintro e w1 ⟨rfl, hb1⟩; have hb2 := below_step hb hb1; clear g0; cases hpf : p f
    ·have H1 : Hid (∀ j g, j < k + 1 → ks[j]? = some g → p g = false) := Lib.hid fun j g hj hg' => by
      rcases Nat.lt_succ_iff_lt_or_eq.1 hj with h | rfl
      ·exact H0.out j g h hg'
      ·rw [Hf.out] at hg'; cases hg'; exact hpf
     clear hpf; go_wp2_with fail
     go_roundw
     case rel => exact ⟨k + 1, by omega, by go_num, H1, hb2⟩
     case measure => simp [intOf]; omega
    ·have Hq := Lib.hid hpf
     clear hpf; go_wp2_with fail
     go_ret
     exact ⟨.inr ⟨k, f, rfl, Hf.out, Hq.out, H0.out⟩, hb2⟩
   ·obtain rfl : k = ks.length := by omega
    go_wp2_with fail
    go_ret
    refine ⟨.inl ⟨rfl, fun f hf => ?_⟩, hb⟩
    obtain ⟨i, hi⟩ := List.getElem?_of_mem hf; exact H0.out i f (List.getElem?_eq_some_iff.1 hi).1 hi
theorem containsSF_calls (g : Nat) (caps : Array Value) (p : ByteArray → Bool) (lo : Nat) (v : Value) (ks : List ByteArray) (w : World) (hv : Strs w lo v ks) (eg : ∀ args w, (callFunc g args).run Tryz.prog w = .ok (.enter g args) w)
  (hp : ∀ (W : World) (k : ByteArray), k ∈ ks → Below w.heap.size w W → Calls Tryz.prog g (#[.string k] ++ caps) W (BoolIs (p k) W)) :
  Calls Tryz.prog 43 #[v, .func (.func g) #[] caps] w (BoolIs (ks.any p) w) := by
 have C := Lib.hid (indexSF_calls g caps p lo v ks w hv eg hp)
 obtain ⟨a, c, rfl⟩ := strs_shape hv
 clear hv hp eg
 go_enter Tryz.func43, Tryz.ntmps43
 go_wp2_with fail
 refine C.out.mono ?_
 rintro e w1 ⟨⟨rfl, h0⟩ | ⟨i, f, rfl, hf, hpf, _⟩, hb⟩
 ·have hr : ks.any p = false := by rw [List.any_eq_false]; intro x hx; rw [h0 x hx]; simp
  clear C h0; go_wp2_with fail
  go_ret
  exact ⟨ret_bool (by rw [hr]), hb⟩
 ·have hr : ks.any p = true := List.any_eq_true.2 ⟨f, List.mem_of_getElem? hf, hpf⟩
  clear C hf hpf; go_wp2_with fail
  go_ret
  exact ⟨ret_bool (by rw [hr]), hb⟩
def slV (s : SlD) (x : Value) : Value := .agg #[.string s.key, x]
def scV (c : ScD) (x : Value) : Value := .agg #[.string c.who, x, .int .i64 c.num, .int .i64 c.den, .bool c.played]
/-- Has a scorer one of the positions of a slot? -/
def fitB (s : SlD) (c : ScD) : Bool := s.pos.any fun p => cnS c.pos p
def suitB (c : ScD) (s : SlD) : Bool := c.pos.any fun p => cnS s.pos p
theorem cnS_iff {ks : List ByteArray} {x : ByteArray} : cnS ks x = true ↔ x ∈ ks := by
 exact Lib.containsS_iff ks x
theorem suit_fit (c : ScD) (s : SlD) : suitB c s = fitB s c := by
 rw [Bool.eq_iff_iff]
 unfold suitB fitB
 simp only [List.any_eq_true, cnS_iff]
 constructor
 ·rintro ⟨p, h1, h2⟩; exact ⟨p, h2, h1⟩
 ·rintro ⟨p, h1, h2⟩; exact ⟨p, h2, h1⟩
theorem suits1_calls (lo : Nat) (pv : Value) (s : SlD) (k : ByteArray) (X : Nat) (w : World) (hK : Strs w lo pv s.pos) (hX : w.cell? ⟨X, 1, none⟩ = some pv) :
  Calls Tryz.prog 117 #[.string k, .pointer (some ⟨X, 0, none⟩)] w (BoolIs (cnS s.pos k) w) := by
 have C := Lib.hid (contains_calls lo pv s.pos k w hK)
 obtain ⟨a, c, rfl⟩ := strs_shape hK
 clear hK
 go_enter Tryz.func117, Tryz.ntmps117
 go_wp2_with fail
 refine C.out.mono ?_
 rintro e w1 ⟨rfl, rfl⟩
 go_wp2_with fail
 go_ret
 exact ⟨rfl, Below.refl _ _⟩
theorem fit1_calls (lo : Nat) (pv : Value) (c : ScD) (k : ByteArray) (X : Nat) (w : World) (hK : Strs w lo pv c.pos) (hX : w.cell? ⟨X, 1, none⟩ = some pv) :
  Calls Tryz.prog 110 #[.string k, .pointer (some ⟨X, 0, none⟩)] w (BoolIs (cnS c.pos k) w) := by
 have C := Lib.hid (contains_calls lo pv c.pos k w hK)
 obtain ⟨a, c, rfl⟩ := strs_shape hK
 clear hK
 go_enter Tryz.func110, Tryz.ntmps110
 go_wp2_with fail
 refine C.out.mono ?_
 rintro e w1 ⟨rfl, rfl⟩
 go_wp2_with fail
 go_ret
 exact ⟨rfl, Below.refl _ _⟩
set_option maxHeartbeats 1000000 in
theorem suits_calls (lo lo' : Nat) (cv sv : Value) (c : ScD) (s : SlD) (w : World) (hc : Strs w lo cv c.pos) (hs : Strs w lo' sv s.pos) :
  Calls Tryz.prog 77 #[scV c cv, slV s sv] w (BoolIs (suitB c s) w) := by
 obtain ⟨W, hW⟩ : ∃ W, W = (w.alloc (.cells #[.string c.who, cv, .int .i64 c.num, .int .i64 c.den, .bool c.played] 77)).alloc (.cells #[.string s.key, sv] 72) := ⟨_, rfl⟩
 have hb0 : Below w.heap.size w W := by rw [hW]; exact (below_alloc w _).trans ((below_alloc _ _).mono (by simp))
 have x1 : W.cell? ⟨w.heap.size, 1, none⟩ = some cv := by rw [hW]; exact cell_at (heap_al (heap_alloc_new w _) _) 1 rfl
 have y1 : W.cell? ⟨w.heap.size + 1, 1, none⟩ = some sv := by
  have := heap_alloc_new (w.alloc (.cells #[.string c.who, cv, .int .i64 c.num, .int .i64 c.den, .bool c.played] 77)) (.cells #[.string s.key, sv] 72)
  rw [World.size_alloc] at this
  rw [hW]; exact cell_at this 1 rfl
 have C := Lib.hid (containsSF_calls 117 #[.pointer (some ⟨w.heap.size + 1, 0, none⟩)] (fun p => cnS s.pos p) lo cv c.pos W (hc.below hb0) (by intro args w; go_simp) (fun V k _ hb => suits1_calls lo' sv s k (w.heap.size + 1) V ((hs.below hb0).below hb) (below_cell hb y1)))
 have HW := Lib.hid hW
 obtain ⟨a, cc, rfl⟩ := strs_shape hc
 obtain ⟨a', cc', rfl⟩ := strs_shape hs
 unfold scV slV
 clear hc hs hW
 go_enter Tryz.func77, Tryz.ntmps77
 go_upto_region 1 with fail
 rw [← HW.out]
 clear HW
 go_wp2_with fail
 refine C.out.mono ?_
 rintro e w1 ⟨rfl, hb⟩
 clear C
 go_wp2_with fail
 go_ret
 exact ⟨rfl, below_step hb0 hb⟩
set_option maxHeartbeats 1000000 in
theorem fit_calls (lo lo' : Nat) (cv sv : Value) (c : ScD) (s : SlD) (w : World) (hc : Strs w lo cv c.pos) (hs : Strs w lo' sv s.pos) :
  Calls Tryz.prog 61 #[slV s sv, scV c cv] w (BoolIs (fitB s c) w) := by
 obtain ⟨W, hW⟩ : ∃ W, W = (w.alloc (.cells #[.string s.key, sv] 72)).alloc (.cells #[.string c.who, cv, .int .i64 c.num, .int .i64 c.den, .bool c.played] 77) := ⟨_, rfl⟩
 have hb0 : Below w.heap.size w W := by rw [hW]; exact (below_alloc w _).trans ((below_alloc _ _).mono (by simp))
 have x1 : W.cell? ⟨w.heap.size, 1, none⟩ = some sv := by rw [hW]; exact cell_at (heap_al (heap_alloc_new w _) _) 1 rfl
 have y1 : W.cell? ⟨w.heap.size + 1, 1, none⟩ = some cv := by
  have := heap_alloc_new (w.alloc (.cells #[.string s.key, sv] 72)) (.cells #[.string c.who, cv, .int .i64 c.num, .int .i64 c.den, .bool c.played] 77)
  rw [World.size_alloc] at this
  rw [hW]; exact cell_at this 1 rfl
 have C := Lib.hid (containsSF_calls 110 #[.pointer (some ⟨w.heap.size + 1, 0, none⟩)] (fun p => cnS c.pos p) lo' sv s.pos W (hs.below hb0) (by intro args w; go_simp) (fun V k _ hb => fit1_calls lo cv c k (w.heap.size + 1) V ((hc.below hb0).below hb) (below_cell hb y1)))
 have HW := Lib.hid hW
 obtain ⟨a, cc, rfl⟩ := strs_shape hc
 obtain ⟨a', cc', rfl⟩ := strs_shape hs
 unfold scV slV
 clear hc hs hW
 go_enter Tryz.func61, Tryz.ntmps61
 go_upto_region 1 with fail
 rw [← HW.out]
 clear HW
 go_wp2_with fail
 refine C.out.mono ?_
 rintro e w1 ⟨rfl, hb⟩
 clear C
 go_wp2_with fail
 go_ret
 exact ⟨rfl, below_step hb0 hb⟩
end Go.Proofs.YtfcaokpadodijaaGreat
/- slices.DeleteFunc at strings with any predicate. -/
namespace Go.Proofs.YtfcaokpadodijaaGreat
open Go.RowKit

theorem filter_take_firstS {α : Type} {p : α → Bool} {fs : List α} {i : Nat} {f : α} (hf : fs[i]? = some f) (hpf : p f = true) (h0 : ∀ j g, j < i → fs[j]? = some g → p g = false) : (fs.take (i + 1)).filter (fun g => !p g) = fs.take i := by
 have hi := (List.getElem?_eq_some_iff.1 hf).1
 have e : fs.take (i + 1) = fs.take i ++ [f] := by
  rw [List.take_succ_eq_append_getElem hi, (List.getElem?_eq_some_iff.1 hf).2]
 rw [e, List.filter_append]
 simp only [List.filter_cons, hpf, Bool.not_true, Bool.false_eq_true, if_false, List.filter_nil, List.append_nil]
 rw [List.filter_eq_self]
 intro g hg
 obtain ⟨j, hj⟩ := List.getElem?_of_mem hg
 rw [List.getElem?_take] at hj
 split at hj
 ·rename_i hji
  rw [h0 j g hji hj]; rfl
 ·cases hj
theorem filter_snocS {α : Type} (p : α → Bool) {l : List α} {k : Nat} {x : α} (hk : l[k]? = some x) : (l.take (k + 1)).filter p = (l.take k).filter p ++ (if p x then [x] else []) := by
 have hlt : k < l.length := (List.getElem?_eq_some_iff.1 hk).1
 have e : l.take (k + 1) = l.take k ++ [x] := by
  rw [List.take_succ_eq_append_getElem hlt, (List.getElem?_eq_some_iff.1 hk).2]
 rw [e, List.filter_append]
 cases hp : p x <;> simp [hp]
end Go.Proofs.YtfcaokpadodijaaGreat
/- Plain facts of the reference's faults. -/
namespace Go.Proofs.YtfcaokpadodijaaGreat
open Go.RowKit

theorem eachE_hit {n k : Nat} {most : Int} {f : Nat → Int} (hm : (n : Int) ≤ most) (hk : k < n) (h0 : ∀ i, i < k → f i = 0) (h : f k ≠ 0) : eachE n most f = f k := by
 unfold eachE
 rw [if_neg (by omega), Int.toNat_natCast]
 exact errsTo_hit hk h0 h
theorem eachE_none {n : Nat} {most : Int} {f : Nat → Int} (hm : (n : Int) ≤ most) (h0 : ∀ i, i < n → f i = 0) : eachE n most f = 0 := by
 unfold eachE
 rw [if_neg (by omega), Int.toNat_natCast]
 exact errsTo_none h0
end Go.Proofs.YtfcaokpadodijaaGreat
/- SlotsFault: what is wrong with slots. -/
namespace Go.Proofs.YtfcaokpadodijaaGreat
open Go.RowKit

theorem rows_take {w : World} {T lo sz g off n c m : Nat} {rows : List (List Value)} (h : Rows w T lo sz (.slice (some ⟨g, off, none⟩) n c) rows) (hn : n = rows.length) (hm : m ≤ n) : Rows w T lo sz (.slice (some ⟨g, off, none⟩) m c) (rows.take m) := by
 have hf := h.fits
 have e0 : (rows.take m).length = m := by simp; omega
 have hsm := h.small
 rcases h.shape with ⟨e, _⟩ | ⟨g', off', cap, cur, fr, e, h2, h3, h4⟩
 ·cases e
 ·simp only [Value.slice.injEq, Option.some.injEq, Addr.mk.injEq, and_true] at e
  obtain ⟨⟨rfl, rfl⟩, _, rfl⟩ := e
  refine ⟨by omega, fun r hr => h.each r (List.mem_of_mem_take hr), .inr ⟨g, off, c, cur, fr, by rw [e0], ⟨h2.1, by rw [e0]; omega⟩, h3, fun i j u hu => ?_⟩⟩
  refine h4 i j u ?_; rw [List.getElem?_take] at hu
  split at hu
  ·exact hu
  ·simp at hu
theorem nrows_take {α : Type} {row : α → Value → List Value} {pos : α → List ByteArray} {w : World} {T lo sz g off n c m : Nat} {xs : List α} (h : NRows row pos w T lo sz (.slice (some ⟨g, off, none⟩) n c) xs) (hn : n = xs.length) (hm : m ≤ n) : NRows row pos w T lo sz (.slice (some ⟨g, off, none⟩) m c) (xs.take m) := by
 obtain ⟨pvs, hl, hr, hp⟩ := h
 refine ⟨pvs.take m, by simp; omega, ?_, fun i x a hx ha => ?_⟩
 ·have := rows_take (m := m) hr (by rw [nRows_length hl]; exact hn) hm
  unfold nRows at this ⊢
  rw [List.take_zipWith] at this
  exact this
 ·rw [List.getElem?_take] at hx ha
  split at hx
  ·rw [if_pos (by assumption)] at ha
   exact hp i x a hx ha
  ·cases hx
def slAt (xs : List SlD) (i : Nat) : SlD := xs[i]?.getD ⟨⟨#[]⟩, []⟩
theorem slAt_some {xs : List SlD} {i : Nat} {s : SlD} (h : xs[i]? = some s) : slAt xs i = s := by simp [slAt, h]
def earB (xs : List SlD) (i : Nat) (k : ByteArray) : Bool := (xs.take i).any fun y => beqS y.key k
/-- What is wrong with slot i. -/
def slF (xs : List SlD) (i : Nat) : Int := firstE [unlessE (keyB (slAt xs i).key) 5, unlessE (!earB xs i (slAt xs i).key) 6, poE (slAt xs i).pos]
def chkSl (xs : List SlD) : Int := firstE [unlessE (decide (0 < xs.length)) 8, eachE xs.length 12 (slF xs)]
theorem slotsFault1_calls (f : SlD) (k : ByteArray) (xa : Option Addr) (n c X : Nat) (w : World) (hX : w.cell? ⟨X, 0, none⟩ = some (.string k)) :
  Calls Tryz.prog 56 #[.agg #[.string f.key, .slice xa n c], .pointer (some ⟨X, 0, none⟩)] w (BoolIs (beqS f.key k) w) := by
 go_enter Tryz.func56, Tryz.ntmps56
 have hX1 := below_cell (below_alloc w (.cells #[.string f.key, .slice xa n c] 72)) hX
 go_wp2_with fail
 go_ret
 exact ⟨ret_bool (by unfold beqS; rfl), below_alloc w _⟩
set_option maxRecDepth 100000 in
set_option maxHeartbeats 8000000 in
theorem slotsFault_calls (lo : Nat) (v : Value) (xs : List SlD) (w : World) (hR : Sls w lo v xs) (hs : ∀ c ∈ xs, SmallSl c) :
  Calls Tryz.prog 13 #[v] w (IntBelow (chkSl xs) w) := by
 rcases sls_at hR with ⟨rfl, rfl⟩ | ⟨g, off, cap, rfl, _, hg, hn, hcell⟩
 ·clear hR hs
  go_enter Tryz.func13, Tryz.ntmps13; go_wp2_with fail
  go_ret
  exact ⟨rfl, Below.refl _ _⟩
 have Hs := Lib.hid hs
 have Hc := Lib.hid hcell
 have HR := Lib.hid hR
 clear hs hcell hR
 by_cases h0 : xs.length = 0
 ·have HN := Lib.hid (show chkSl xs = 8 by unfold chkSl; rw [h0]; rfl)
  have e0 : ((xs.length : Int) == 0) = true := by rw [beq_iff_eq]; omega
  clear h0; go_enter Tryz.func13, Tryz.ntmps13; go_wp2_with fail
  go_ret
  exact ⟨ret_int HN.out.symm, Below.refl _ _⟩
 have e0 : ((xs.length : Int) == 0) = false := by rw [beq_eq_false_iff_ne]; omega
 have HE := Lib.hid (show chkSl xs = eachE xs.length 12 (slF xs) by
  unfold chkSl; rw [decide_eq_true (show 0 < xs.length by omega)]
  simp [unlessE, firstE]
  exact fun h => h.symm)
 rw [HE.out]
 clear h0
 by_cases hm : xs.length ≤ 12
 ·have Hm := Lib.hid (show (xs.length : Int) ≤ 12 by omega)
  go_enter Tryz.func13, Tryz.ntmps13; go_wp2_with fail
  clear e0; go_loopw [16] (fun i wr => ∃ k : Nat, k ≤ xs.length ∧ i = .int .i64 k ∧ Hid (∀ i, i < k → slF xs i = 0) ∧ Below w.heap.size w wr) (fun i _ => xs.length - (intOf i).toNat)
  case atStart => exact ⟨0, Nat.zero_le _, rfl, Lib.hid (fun i hi => by omega), Below.refl _ _⟩
  case round =>
   obtain ⟨k, hk, rfl, H0, hb⟩ := hrel; by_cases hlt : k < xs.length
   ·obtain ⟨c, hc⟩ : ∃ c, xs[k]? = some c := ⟨xs[k], List.getElem?_eq_getElem hlt⟩
    obtain ⟨s1, s2, s3⟩ := Hs.out c (List.mem_of_getElem? hc); have HF := Lib.hid (show slF xs k = firstE [unlessE (keyB c.key) 5, unlessE (!earB xs k c.key) 6, lfE true c.pos] by unfold slF; rw [slAt_some hc, poE_eq])
    have Hhit := Lib.hid (fun (h : slF xs k ≠ 0) => (show eachE xs.length 12 (slF xs) = slF xs k from eachE_hit Hm.out hlt H0.out h))
    have Hnext := Lib.hid (fun (h : slF xs k = 0) i (hi : i < k + 1) => (show slF xs i = 0 by
     rcases Nat.lt_succ_iff_lt_or_eq.1 hi with h' | rfl
     ·exact H0.out i h'
     ·exact h))
    obtain ⟨pv, q0, q1, hpv⟩ := Hc.out k c hc; obtain ⟨pa, pc, rfl⟩ := strs_shape hpv; have p0 := below_cell hb q0; have p1 := below_cell hb q1; have HL := Lib.hid (fun w' (hb' : Below w.heap.size w w') => listFault_calls true lo _ c.pos w' (hpv.below hb') s3 (by omega))
    have HT := Lib.hid (fun w' (hb' : Below w.heap.size w w') => (show Sls w' lo (.slice (some ⟨g, off, none⟩) k cap) (xs.take k) from NRows.below (nrows_take HR.out rfl (by omega)) hb'))
    have hfit : xs.length ≤ cap := by obtain ⟨_, hl, hr, _⟩ := HR.out; exact Rows.fits hr
    clear hc s2 s3 q0 q1 hpv; go_upto_region 8 with fail
    obtain ⟨wA, hwA⟩ : ∃ wA, wA = wr.alloc (.cells #[.string c.key, .slice pa c.pos.length pc] 72) := ⟨_, rfl⟩
    obtain ⟨X, hX⟩ : ∃ X, X = wr.heap.size := ⟨_, rfl⟩
    have hbA : Below w.heap.size w wA := by rw [hwA]; exact below_step hb (below_alloc wr _)
    have hx : wA.heap[X]? = some (.cells #[.string c.key, .slice pa c.pos.length pc] 72 (0, 0)) := by rw [hwA, hX]; exact heap_alloc_new wr _
    rw [← hwA, ← hX]; have x0 := cell_at hx 0 rfl; have x1 := cell_at hx 1 rfl; have HbA := Lib.hid hbA; have HC := Lib.hid (containsSl_calls 56 #[.pointer (some ⟨X, 0, none⟩)] (fun y => beqS y.key c.key) lo _ (xs.take k) wA (HT.out wA hbA) (by intro args w; go_simp) (fun W f xa xc hb => slotsFault1_calls f c.key xa _ xc X W (below_cell hb x0)))
    have HEB := Lib.hid (show (xs.take k).any (fun y => beqS y.key c.key) = earB xs k c.key from rfl)
    rw [HEB.out] at HC
    have Hx := Lib.hid hx; have hkc : k ≤ cap := by omega
    clear hwA hX hbA hx hb p0 p1 HT HEB; cases hnm : keyB c.key
    ·have HN := Lib.hid (show slF xs k = 5 by rw [HF.out, hnm]; simp [unlessE, firstE])
     have HK := Lib.hid hnm; clear hnm; go_wp2_with fail
     refine (keyR_calls _ _ (by omega)).mono ?_
     rintro e w' ⟨rfl, rfl⟩; rw [HK.out]; go_wp2_with fail
     go_ret
     exact ⟨ret_int (by rw [Hhit.out (by rw [HN.out]; omega), HN.out]), HbA.out⟩
    ·have HK := Lib.hid hnm
     clear hnm; go_wp2_with fail
     refine (keyR_calls _ _ (by omega)).mono ?_
     rintro e w' ⟨rfl, rfl⟩; rw [HK.out]; go_wp2_with fail
     refine HC.out.mono ?_; rintro e w2 ⟨rfl, hb2⟩; have hx2 := cells_later Hx.out hb2; have z0 := cell_at hx2 0 rfl; have z1 := cell_at hx2 1 rfl; have hb02 := below_step HbA.out hb2; clear hx2 hb2; cases he : earB xs k c.key
     ·have HRE := Lib.hid (show slF xs k = lfE true c.pos by rw [HF.out, HK.out, he]; simp [unlessE, firstE]; exact fun h => h.symm)
      clear he; go_wp2_with fail
      refine (HL.out w2 hb02).mono ?_; rintro e w' ⟨rfl, rfl⟩; rw [← HRE.out]; by_cases hz : slF xs k = 0
      ·have e2 : (slF xs k != 0) = false := by simp [hz]
       have HN := Lib.hid (Hnext.out hz); clear hz; go_wp2_with fail
       go_roundw
       case rel => exact ⟨k + 1, by omega, by go_num, HN, hb02⟩
       case measure => simp [intOf]; omega
      ·have e2 : (slF xs k != 0) = true := by simp [hz]
       have HN := Lib.hid (Hhit.out hz); clear hz; go_wp2_with fail
       go_ret
       exact ⟨ret_int HN.out.symm, hb02⟩
     ·have HN := Lib.hid (show slF xs k = 6 by rw [HF.out, HK.out, he]; simp [unlessE, firstE])
      clear he; go_wp2_with fail
      go_ret
      exact ⟨ret_int (by rw [Hhit.out (by rw [HN.out]; omega), HN.out]), hb02⟩
   ·obtain rfl : k = xs.length := by omega
    have HN := Lib.hid (show eachE xs.length 12 (slF xs) = 0 from eachE_none Hm.out H0.out)
    go_wp2_with fail
    go_ret
    exact ⟨ret_int HN.out.symm, hb⟩
 ·have HN := Lib.hid (show eachE xs.length 12 (slF xs) = 2 by unfold eachE; rw [if_pos (by omega)])
  go_enter Tryz.func13, Tryz.ntmps13; go_wp2_with fail
  go_ret
  exact ⟨ret_int HN.out.symm, Below.refl _ _⟩
end Go.Proofs.YtfcaokpadodijaaGreat
/- CheckSlots. -/
namespace Go.Proofs.YtfcaokpadodijaaGreat
open Go.RowKit

theorem checkSlots11_calls (f : SlD) (k : ByteArray) (xa : Option Addr) (n c X : Nat) (w : World) (hX : w.cell? ⟨X, 0, none⟩ = some (.string k)) :
  Calls Tryz.prog 70 #[.agg #[.string f.key, .slice xa n c], .pointer (some ⟨X, 0, none⟩)] w (BoolIs (beqS f.key k) w) := by
 go_enter Tryz.func70, Tryz.ntmps70
 have hX1 := below_cell (below_alloc w (.cells #[.string f.key, .slice xa n c] 72)) hX
 go_wp2_with fail
 go_ret
 exact ⟨ret_bool (by unfold beqS; rfl), below_alloc w _⟩
theorem nums3s (w : World) (T : Nat) (a b c : Int) : NumsAt (w.alloc (.cells #[.int .i64 a, .int .i64 b, .int .i64 c] T)) w.heap.size 0 [a, b, c] := by
 intro i x hx
 rw [World.cell?_alloc_at _ _ _ _ rfl]
 match i, hx with
 | 0, hx => simp at hx; subst hx; rfl
 | 1, hx => simp at hx; subst hx; rfl
 | 2, hx => simp at hx; subst hx; rfl
def o69_3 : Array Go.Oper := #[
 ⟨some 15, .fieldAddr 72 (.tmp 4) 0, 0, "lineup.go:20", #[], none⟩,
 ⟨some 16, .load 9 (.tmp 15), 9, "lineup.go:20", #[⟨0, .data⟩], none⟩,
 ⟨some 17, .call { callee := .value (.func 71), args := #[.tmp 16], argTypes := #[9] }, 4, "lineup.go:21", #[⟨1, .data⟩], none⟩,
 ⟨some 18, .call { callee := .value (.func 47), args := #[.tmp 17, .const (.int .i64 5)], argTypes := #[4, 35] }, 35, "lineup.go:21", #[⟨2, .data⟩, ⟨2, .chain⟩], none⟩,
 ⟨some 19, .move (.tmp 5), 4, "lineup.go:20", #[], none⟩,
 ⟨some 20, .unOp .not 4 (.tmp 19), 4, "lineup.go:20", #[⟨4, .data⟩], none⟩,
 ⟨some 21, .call { callee := .value (.func 47), args := #[.tmp 20, .const (.int .i64 6)], argTypes := #[4, 35] }, 35, "lineup.go:22", #[⟨5, .data⟩, ⟨3, .chain⟩], none⟩,
 ⟨some 22, .fieldAddr 72 (.tmp 4) 1, 0, "lineup.go:20", #[], none⟩,
 ⟨some 23, .load 39 (.tmp 22), 39, "lineup.go:20", #[⟨7, .data⟩], none⟩,
 ⟨some 24, .call { callee := .value (.func 72), args := #[.tmp 23], argTypes := #[39] }, 35, "lineup.go:23", #[⟨8, .data⟩, ⟨6, .chain⟩], none⟩,
 ⟨some 25, .buildSlice 90 3 #[(0, .tmp 18), (1, .tmp 21), (2, .tmp 24)], 90, "lineup.go:20", #[⟨3, .data⟩, ⟨6, .data⟩, ⟨9, .data⟩], none⟩,
 ⟨some 26, .call { callee := .value (.func 46), args := #[.tmp 25], argTypes := #[90] }, 35, "lineup.go:20", #[⟨10, .data⟩, ⟨9, .chain⟩], none⟩,
 ⟨some 3, .assign (.tmp 26), 35, "lineup.go:20", #[⟨11, .data⟩, ⟨11, .chain⟩, ⟨0, .phase⟩, ⟨1, .phase⟩, ⟨2, .phase⟩, ⟨3, .phase⟩, ⟨4, .phase⟩, ⟨5, .phase⟩, ⟨6, .phase⟩, ⟨7, .phase⟩, ⟨8, .phase⟩, ⟨9, .phase⟩, ⟨10, .phase⟩, ⟨11, .phase⟩], none⟩]
theorem o69_3_0 : o69_3[0]? = some (⟨some 15, .fieldAddr 72 (.tmp 4) 0, 0, "lineup.go:20", #[], none⟩ : Go.Oper) := rfl
theorem o69_3_1 : o69_3[1]? = some (⟨some 16, .load 9 (.tmp 15), 9, "lineup.go:20", #[⟨0, .data⟩], none⟩ : Go.Oper) := rfl
theorem o69_3_2 : o69_3[2]? = some (⟨some 17, .call { callee := .value (.func 71), args := #[.tmp 16], argTypes := #[9] }, 4, "lineup.go:21", #[⟨1, .data⟩], none⟩ : Go.Oper) := rfl
theorem o69_3_3 : o69_3[3]? = some (⟨some 18, .call { callee := .value (.func 47), args := #[.tmp 17, .const (.int .i64 5)], argTypes := #[4, 35] }, 35, "lineup.go:21", #[⟨2, .data⟩, ⟨2, .chain⟩], none⟩ : Go.Oper) := rfl
theorem o69_3_4 : o69_3[4]? = some (⟨some 19, .move (.tmp 5), 4, "lineup.go:20", #[], none⟩ : Go.Oper) := rfl
theorem o69_3_5 : o69_3[5]? = some (⟨some 20, .unOp .not 4 (.tmp 19), 4, "lineup.go:20", #[⟨4, .data⟩], none⟩ : Go.Oper) := rfl
theorem o69_3_6 : o69_3[6]? = some (⟨some 21, .call { callee := .value (.func 47), args := #[.tmp 20, .const (.int .i64 6)], argTypes := #[4, 35] }, 35, "lineup.go:22", #[⟨5, .data⟩, ⟨3, .chain⟩], none⟩ : Go.Oper) := rfl
theorem o69_3_7 : o69_3[7]? = some (⟨some 22, .fieldAddr 72 (.tmp 4) 1, 0, "lineup.go:20", #[], none⟩ : Go.Oper) := rfl
theorem o69_3_8 : o69_3[8]? = some (⟨some 23, .load 39 (.tmp 22), 39, "lineup.go:20", #[⟨7, .data⟩], none⟩ : Go.Oper) := rfl
theorem o69_3_9 : o69_3[9]? = some (⟨some 24, .call { callee := .value (.func 72), args := #[.tmp 23], argTypes := #[39] }, 35, "lineup.go:23", #[⟨8, .data⟩, ⟨6, .chain⟩], none⟩ : Go.Oper) := rfl
theorem o69_3_10 : o69_3[10]? = some (⟨some 25, .buildSlice 90 3 #[(0, .tmp 18), (1, .tmp 21), (2, .tmp 24)], 90, "lineup.go:20", #[⟨3, .data⟩, ⟨6, .data⟩, ⟨9, .data⟩], none⟩ : Go.Oper) := rfl
theorem o69_3_11 : o69_3[11]? = some (⟨some 26, .call { callee := .value (.func 46), args := #[.tmp 25], argTypes := #[90] }, 35, "lineup.go:20", #[⟨10, .data⟩, ⟨9, .chain⟩], none⟩ : Go.Oper) := rfl
theorem o69_3_12 : o69_3[12]? = some (⟨some 3, .assign (.tmp 26), 35, "lineup.go:20", #[⟨11, .data⟩, ⟨11, .chain⟩, ⟨0, .phase⟩, ⟨1, .phase⟩, ⟨2, .phase⟩, ⟨3, .phase⟩, ⟨4, .phase⟩, ⟨5, .phase⟩, ⟨6, .phase⟩, ⟨7, .phase⟩, ⟨8, .phase⟩, ⟨9, .phase⟩, ⟨10, .phase⟩, ⟨11, .phase⟩], none⟩ : Go.Oper) := rfl
theorem o69_3_ns : Go.Region.noSelect o69_3 = true := by kernel_rfl
def o23_1 : Array Go.Oper := #[
 ⟨some 3, .load 26 (.tmp 1), 26, "lineup.go:15", #[], none⟩,
 ⟨some 4, .call { callee := .builtin .len, args := #[.tmp 3], argTypes := #[26] }, 3, "lineup.go:15", #[⟨0, .data⟩], none⟩,
 ⟨some 5, .binOp .gtr 3 (.tmp 4) (.const (.int .i64 0)) 3, 4, "lineup.go:15", #[⟨1, .data⟩], none⟩,
 ⟨some 6, .call { callee := .value (.func 47), args := #[.tmp 5, .const (.int .i64 8)], argTypes := #[4, 35] }, 35, "lineup.go:16", #[⟨2, .data⟩], none⟩,
 ⟨some 7, .load 26 (.tmp 1), 26, "lineup.go:15", #[], none⟩,
 ⟨some 8, .call { callee := .builtin .len, args := #[.tmp 7], argTypes := #[26] }, 3, "lineup.go:15", #[⟨4, .data⟩], none⟩,
 ⟨some 9, .makeFunc (.func 69) #[] #[.tmp 1], 109, "lineup.go:15", #[], none⟩,
 ⟨some 10, .call { callee := .value (.func 68), args := #[.tmp 8, .const (.int .i64 12), .tmp 9], argTypes := #[3, 3, 109] }, 35, "lineup.go:17", #[⟨5, .data⟩, ⟨6, .data⟩, ⟨3, .chain⟩], none⟩,
 ⟨some 11, .buildSlice 90 2 #[(0, .tmp 6), (1, .tmp 10)], 90, "lineup.go:15", #[⟨3, .data⟩, ⟨7, .data⟩], none⟩,
 ⟨some 12, .call { callee := .value (.func 46), args := #[.tmp 11], argTypes := #[90] }, 35, "lineup.go:15", #[⟨8, .data⟩, ⟨7, .chain⟩], none⟩,
 ⟨some 2, .assign (.tmp 12), 35, "lineup.go:15", #[⟨9, .data⟩, ⟨9, .chain⟩, ⟨0, .phase⟩, ⟨1, .phase⟩, ⟨2, .phase⟩, ⟨3, .phase⟩, ⟨4, .phase⟩, ⟨5, .phase⟩, ⟨6, .phase⟩, ⟨7, .phase⟩, ⟨8, .phase⟩, ⟨9, .phase⟩], none⟩]
theorem o23_1_0 : o23_1[0]? = some (⟨some 3, .load 26 (.tmp 1), 26, "lineup.go:15", #[], none⟩ : Go.Oper) := rfl
theorem o23_1_1 : o23_1[1]? = some (⟨some 4, .call { callee := .builtin .len, args := #[.tmp 3], argTypes := #[26] }, 3, "lineup.go:15", #[⟨0, .data⟩], none⟩ : Go.Oper) := rfl
theorem o23_1_2 : o23_1[2]? = some (⟨some 5, .binOp .gtr 3 (.tmp 4) (.const (.int .i64 0)) 3, 4, "lineup.go:15", #[⟨1, .data⟩], none⟩ : Go.Oper) := rfl
theorem o23_1_3 : o23_1[3]? = some (⟨some 6, .call { callee := .value (.func 47), args := #[.tmp 5, .const (.int .i64 8)], argTypes := #[4, 35] }, 35, "lineup.go:16", #[⟨2, .data⟩], none⟩ : Go.Oper) := rfl
theorem o23_1_4 : o23_1[4]? = some (⟨some 7, .load 26 (.tmp 1), 26, "lineup.go:15", #[], none⟩ : Go.Oper) := rfl
theorem o23_1_5 : o23_1[5]? = some (⟨some 8, .call { callee := .builtin .len, args := #[.tmp 7], argTypes := #[26] }, 3, "lineup.go:15", #[⟨4, .data⟩], none⟩ : Go.Oper) := rfl
theorem o23_1_6 : o23_1[6]? = some (⟨some 9, .makeFunc (.func 69) #[] #[.tmp 1], 109, "lineup.go:15", #[], none⟩ : Go.Oper) := rfl
theorem o23_1_7 : o23_1[7]? = some (⟨some 10, .call { callee := .value (.func 68), args := #[.tmp 8, .const (.int .i64 12), .tmp 9], argTypes := #[3, 3, 109] }, 35, "lineup.go:17", #[⟨5, .data⟩, ⟨6, .data⟩, ⟨3, .chain⟩], none⟩ : Go.Oper) := rfl
theorem o23_1_8 : o23_1[8]? = some (⟨some 11, .buildSlice 90 2 #[(0, .tmp 6), (1, .tmp 10)], 90, "lineup.go:15", #[⟨3, .data⟩, ⟨7, .data⟩], none⟩ : Go.Oper) := rfl
theorem o23_1_9 : o23_1[9]? = some (⟨some 12, .call { callee := .value (.func 46), args := #[.tmp 11], argTypes := #[90] }, 35, "lineup.go:15", #[⟨8, .data⟩, ⟨7, .chain⟩], none⟩ : Go.Oper) := rfl
theorem o23_1_10 : o23_1[10]? = some (⟨some 2, .assign (.tmp 12), 35, "lineup.go:15", #[⟨9, .data⟩, ⟨9, .chain⟩, ⟨0, .phase⟩, ⟨1, .phase⟩, ⟨2, .phase⟩, ⟨3, .phase⟩, ⟨4, .phase⟩, ⟨5, .phase⟩, ⟨6, .phase⟩, ⟨7, .phase⟩, ⟨8, .phase⟩, ⟨9, .phase⟩], none⟩ : Go.Oper) := rfl
theorem o23_1_ns : Go.Region.noSelect o23_1 = true := by kernel_rfl
set_option maxRecDepth 100000 in
set_option maxHeartbeats 16000000 in
theorem checkSlots1_calls (b g off cap i lo : Nat) (xs : List SlD) (c : SlD) (w : World) (hi : xs[i]? = some c) (hs : SmallSl c) (hn : xs.length ≤ 1000000)
  (h1 : w.cell? ⟨b, 0, none⟩ = some (.slice (some ⟨g, off, none⟩) xs.length cap)) (hR : Sls w lo (.slice (some ⟨g, off, none⟩) xs.length cap) xs) :
  Calls Tryz.prog 69 #[.int .i64 (i : Int), .pointer (some ⟨b, 0, none⟩)] w (IntBelow (slF xs i) w) := by
 have hlt : i < xs.length := (List.getElem?_eq_some_iff.1 hi).1
 rcases sls_at hR with ⟨h, _⟩ | ⟨g', off', cap', e, _, _, _, hcell⟩
 ·cases h
 simp only [Value.slice.injEq, Option.some.injEq, Addr.mk.injEq, and_true, true_and] at e
 obtain ⟨⟨rfl, rfl⟩, rfl⟩ := e
 obtain ⟨pv, q0, q1, hpv⟩ := hcell i c hi
 obtain ⟨pa, pc, rfl⟩ := strs_shape hpv
 have hfit : xs.length ≤ cap := by obtain ⟨_, hl, hr, _⟩ := hR; exact Rows.fits hr
 obtain ⟨W, hW⟩ : ∃ W, W = w.alloc (.cells #[.string c.key, .slice pa c.pos.length pc] 72) := ⟨_, rfl⟩
 have hwW : Below w.heap.size w W := by rw [hW]; exact below_alloc w _
 have hx : W.heap[w.heap.size]? = some (.cells #[.string c.key, .slice pa c.pos.length pc] 72 (0, 0)) := by rw [hW]; exact heap_alloc_new w _
 have x0 := cell_at hx 0 rfl
 have x1 := cell_at hx 1 rfl
 have c1 := below_cell hwW h1
 obtain ⟨hs1, hs2, hs3⟩ := hs
 have HP := Lib.hid (show ∀ w', Below w.heap.size w w' → Calls Tryz.prog 72 #[.slice pa c.pos.length pc] w' (IntBelow (poE c.pos) w') from fun w' hb => positions_calls lo _ c.pos w' (hpv.below hb) hs3 (by omega))
 have HC := Lib.hid (containsSl_calls 70 #[.pointer (some ⟨w.heap.size, 0, none⟩)] (fun y => beqS y.key c.key) lo _ (xs.take i) W (NRows.below (nrows_take hR rfl (by omega : i ≤ xs.length)) hwW) (by intro args w; go_simp) (fun V f xa xc hb => checkSlots11_calls f c.key xa _ xc w.heap.size V (below_cell hb x0)))
 have HEB := Lib.hid (show (xs.take i).any (fun y => beqS y.key c.key) = earB xs i c.key from rfl)
 rw [HEB.out] at HC
 have Hr := Lib.hid (show slF xs i = firstE [unlessE (keyB c.key) 5, unlessE (!earB xs i c.key) 6, poE c.pos] by unfold slF; rw [slAt_some hi])
 have Hx := Lib.hid hx
 have hic : i ≤ cap := by omega
 have hil : i ≤ xs.length := by omega
 generalize earB xs i c.key = eb at HC Hr
 clear hs2 hs3 hx hpv hR hcell hi HEB
 go_enter Tryz.func69, Tryz.ntmps69
 go_upto_region 2 with fail
 rw [← hW]
 clear hW
 go_wp2_with fail
 refine HC.out.mono ?_
 rintro e w2 ⟨rfl, hb2⟩
 have hx2 := cells_later Hx.out hb2
 have z0 := cell_at hx2 0 rfl
 have z1 := cell_at hx2 1 rfl
 have Hb02 := Lib.hid (hwW.trans (hb2.mono hwW.size))
 have HS := Lib.hid (show ∀ w', Below w2.heap.size w2 w' → (Below w2.heap.size w2 w' ∧ w'.cell? ⟨w.heap.size, 0, none⟩ = some (.string c.key) ∧ w'.cell? ⟨w.heap.size, 1, none⟩ = some (.slice pa c.pos.length pc)) from fun w' hb => ⟨hb, below_cell hb z0, below_cell hb z1⟩)
 have hb0 := (Below.refl w2.heap.size w2).drew
 clear hx2 x0 x1 c1 HC hb2 hwW
 go_upto_region 3 with fail
 show Code.wp _ (Code.region 3 o69_3 true) _ _ _
 refine region_start 13 (fun w' => Below w2.heap.size w2 w' ∧ w'.cell? ⟨w.heap.size, 0, none⟩ = some (.string c.key) ∧ w'.cell? ⟨w.heap.size, 1, none⟩ = some (.slice pa c.pos.length pc)) (by kernel_rfl) rfl ?_ (fun hHeld => ?_)
 ·(exact HS.out _ (by first | assumption | exact hHeld.1 | exact below_step hHeld.1 (by first | assumption | exact below_alloc _ _)))
 refine take_to 0 15 (bQ 13 1) (v := ?_) o69_3_0 rfl o69_3_ns (by kernel_rfl) (by kernel_rfl) (fun _ _ _ h => h) (by rfl) ?y00 (by assumption) ?_
 case y00 => intro w h; (try dsimp only at h); go_simp; try with_reducible rfl
 simp only [sE0, sE1]
 refine take_to 1 16 (bQ 13 3) (v := ?_) o69_3_1 rfl o69_3_ns (by kernel_rfl) (by kernel_rfl) (fun _ _ _ h => h) (by rfl) ?y10 (by assumption) ?_
 case y10 => intro w h; (try dsimp only at h); go_simp; try with_reducible rfl
 simp only [sE0, sE1]
 refine take_to 4 19 (bQ 13 19) (v := ?_) o69_3_4 rfl o69_3_ns (by kernel_rfl) (by kernel_rfl) (fun _ _ _ h => h) (by rfl) ?y40 (by assumption) ?_
 case y40 => intro w h; (try dsimp only at h); go_simp; try with_reducible rfl
 simp only [sE0, sE1]
 refine take_to 5 20 (bQ 13 51) (v := ?_) o69_3_5 rfl o69_3_ns (by kernel_rfl) (by kernel_rfl) (fun _ _ _ h => h) (by rfl) ?y50 (by assumption) ?_
 case y50 => intro w h; (try dsimp only at h); go_simp; try with_reducible rfl
 simp only [sE0, sE1]
 refine take_to 7 22 (bQ 13 179) (v := ?_) o69_3_7 rfl o69_3_ns (by kernel_rfl) (by kernel_rfl) (fun _ _ _ h => h) (by rfl) ?y70 (by assumption) ?_
 case y70 => intro w h; (try dsimp only at h); go_simp; try with_reducible rfl
 simp only [sE0, sE1]
 refine take_to 8 23 (bQ 13 435) (v := ?_) o69_3_8 rfl o69_3_ns (by kernel_rfl) (by kernel_rfl) (fun _ _ _ h => h) (by rfl) ?y80 (by assumption) ?_
 case y80 => intro w h; (try dsimp only at h); go_simp; try with_reducible rfl
 simp only [sE0, sE1]
 refine run_to 2 (bQ 13 439) o69_3_2 (by kernel_rfl) (by kernel_rfl) (by rfl) (fun K hK => ?_)
 go_simp
 refine (key_calls _ _ (by omega)).mono ?_
 rintro e w' ⟨rfl, rfl⟩
 go_wp2_with fail
 refine hK.out _ _ ?_ (fun hHeld => ?_)
 ·(exact HS.out _ (by first | assumption | exact hHeld.1 | exact below_step hHeld.1 (by first | assumption | exact below_alloc _ _)))
 clear hK K
 try simp only [Act.put, sEt, sE0, sE1]
 refine run_to 3 (bQ 13 447) o69_3_3 (by kernel_rfl) (by kernel_rfl) (by rfl) (fun K hK => ?_)
 go_simp
 refine (unless_calls _ _ _).mono ?_
 rintro e w' ⟨rfl, rfl⟩
 go_wp2_with fail
 refine hK.out _ _ ?_ (fun hHeld => ?_)
 ·(exact HS.out _ (by first | assumption | exact hHeld.1 | exact below_step hHeld.1 (by first | assumption | exact below_alloc _ _)))
 clear hK K
 try simp only [Act.put, sEt, sE0, sE1]
 refine run_to 6 (bQ 13 511) o69_3_6 (by kernel_rfl) (by kernel_rfl) (by rfl) (fun K hK => ?_)
 go_simp
 refine (unless_calls _ _ _).mono ?_
 rintro e w' ⟨rfl, rfl⟩
 go_wp2_with fail
 refine hK.out _ _ ?_ (fun hHeld => ?_)
 ·(exact HS.out _ (by first | assumption | exact hHeld.1 | exact below_step hHeld.1 (by first | assumption | exact below_alloc _ _)))
 clear hK K
 try simp only [Act.put, sEt, sE0, sE1]
 refine run_to 9 (bQ 13 1023) o69_3_9 (by kernel_rfl) (by kernel_rfl) (by rfl) (fun K hK => ?_)
 go_simp
 refine (HP.out _ (below_step Hb02.out hHeld.1)).mono ?_
 rintro e w' ⟨rfl, hb⟩
 go_wp2_with fail
 refine hK.out _ _ ?_ (fun hHeld => ?_)
 ·(exact HS.out _ (by first | assumption | exact hHeld.1 | exact below_step hHeld.1 (by first | assumption | exact below_alloc _ _)))
 clear hK K
 try simp only [Act.put, sEt, sE0, sE1]
 refine run_to 10 (bQ 13 2047) o69_3_10 (by kernel_rfl) (by kernel_rfl) (by rfl) (fun K hK => ?_)
 go_simp
 refine hK.out _ _ ?_ (fun hHeld => ?_)
 ·(exact HS.out _ (by first | assumption | exact hHeld.1 | exact below_step hHeld.1 (by first | assumption | exact below_alloc _ _)))
 clear hK K
 try simp only [Act.put, sEt, sE0, sE1]
 refine run_to 11 (bQ 13 4095) o69_3_11 (by kernel_rfl) (by kernel_rfl) (by rfl) (fun K hK => ?_)
 go_simp
 refine (orE_calls _ 0 3 [unlessE (keyB c.key) 5, unlessE (!eb) 6, poE c.pos] _ (by simp) (by exact nums3s _ _ _ _ _)).mono ?_
 rintro e w' ⟨rfl, rfl⟩
 go_wp2_with fail
 refine hK.out _ _ ?_ (fun hHeld => ?_)
 ·(exact HS.out _ (by first | assumption | exact hHeld.1 | exact below_step hHeld.1 (by first | assumption | exact below_alloc _ _)))
 clear hK K
 try simp only [Act.put, sEt, sE0, sE1]
 refine take_to 12 3 (bQ 13 8191) (v := ?_) o69_3_12 rfl o69_3_ns (by kernel_rfl) (by kernel_rfl) (fun _ _ _ h => h) (by rfl) ?y120 (by assumption) ?_
 case y120 => intro w h; (try dsimp only at h); go_simp; try with_reducible rfl
 simp only [sE0, sE1]
 refine wpAnyH_done (by kernel_rfl) ?_ _
 go_wp2_with fail
 go_ret
 exact ⟨ret_int Hr.out.symm, below_step Hb02.out hHeld.1⟩
set_option maxRecDepth 100000 in
set_option maxHeartbeats 4000000 in
theorem checkSlots_calls (lo : Nat) (v : Value) (xs : List SlD) (w : World) (hR : Sls w lo v xs) (hs : ∀ c ∈ xs, SmallSl c) (hn : xs.length ≤ 1000000) :
  Calls Tryz.prog 23 #[v] w (IntBelow (chkSl xs) w) := by
 obtain ⟨a, c, rfl⟩ := NRows.shape hR
 obtain ⟨W, hW⟩ : ∃ W, W = w.alloc (.cells #[.slice a xs.length c] 26) := ⟨_, rfl⟩
 have hwW : Below w.heap.size w W := by rw [hW]; exact below_alloc w _
 have x0 : W.cell? ⟨w.heap.size, 0, none⟩ = some (.slice a xs.length c) := by rw [hW, World.cell?_alloc_at _ _ _ _ rfl]; rfl
 have Hs := Lib.hid hs
 have Hf := Lib.hid (show ∀ (V V' : World) (i : Nat), Below W.heap.size W V → i < xs.length → Below V.heap.size V V' → Calls Tryz.prog 69 (#[.int .i64 (i : Int)] ++ #[.pointer (some ⟨w.heap.size, 0, none⟩)]) V' (IntBelow (slF xs i) V') from by
  intro V V' i hbV hi hbW; obtain ⟨r, hr⟩ : ∃ r, xs[i]? = some r := ⟨xs[i], List.getElem?_eq_getElem hi⟩
  have hRW : Sls V' lo (.slice a xs.length c) xs := NRows.below (NRows.below (NRows.below hR hwW) hbV) hbW
  have y0 := below_cell hbW (below_cell hbV x0); rcases sls_at hRW with ⟨_, rfl⟩ | ⟨g, off, cap, e, _⟩
  ·simp at hi
  ·rw [e] at hRW y0
   exact checkSlots1_calls w.heap.size g off cap i lo xs r V' hr (Hs.out r (List.mem_of_getElem? hr)) hn y0 hRW)
 have Hr := Lib.hid (show chkSl xs = firstE [unlessE (decide (0 < xs.length)) 8, eachE xs.length 12 (slF xs)] from rfl)
 have HS := Lib.hid (show ∀ w', Below W.heap.size W w' → (Below W.heap.size W w' ∧ w'.cell? ⟨w.heap.size, 0, none⟩ = some (.slice a xs.length c)) from fun w' hb => ⟨hb, below_cell hb x0⟩)
 have hb0 := (Below.refl W.heap.size W).drew
 clear hs hR x0
 go_enter Tryz.func23, Tryz.ntmps23
 go_upto_region 1 with fail
 rw [← hW]
 clear hW
 show Code.wp _ (Code.region 1 o23_1 true) _ _ _
 refine region_start 11 (fun w' => Below W.heap.size W w' ∧ w'.cell? ⟨w.heap.size, 0, none⟩ = some (.slice a xs.length c)) (by kernel_rfl) rfl ?_ (fun hHeld => ?_)
 ·(exact HS.out _ (by first | assumption | exact hHeld.1 | exact below_step hHeld.1 (by first | assumption | exact below_alloc _ _)))
 refine take_to 0 3 (bQ 11 1) (v := ?_) o23_1_0 rfl o23_1_ns (by kernel_rfl) (by kernel_rfl) (fun _ _ _ h => h) (by rfl) ?y01 (by assumption) ?_
 case y01 => intro w h; (try dsimp only at h); go_simp; try with_reducible rfl
 simp only [sE0, sE1]
 refine take_to 1 4 (bQ 11 3) (v := ?_) o23_1_1 rfl o23_1_ns (by kernel_rfl) (by kernel_rfl) (fun _ _ _ h => h) (by rfl) ?y11 (by assumption) ?_
 case y11 => intro w h; (try dsimp only at h); go_simp; try with_reducible rfl
 simp only [sE0, sE1]
 refine take_to 2 5 (bQ 11 7) (v := ?_) o23_1_2 rfl o23_1_ns (by kernel_rfl) (by kernel_rfl) (fun _ _ _ h => h) (by rfl) ?y21 (by assumption) ?_
 case y21 => intro w h; (try dsimp only at h); go_simp; try with_reducible rfl
 simp only [sE0, sE1]
 refine take_to 4 7 (bQ 11 23) (v := ?_) o23_1_4 rfl o23_1_ns (by kernel_rfl) (by kernel_rfl) (fun _ _ _ h => h) (by rfl) ?y41 (by assumption) ?_
 case y41 => intro w h; (try dsimp only at h); go_simp; try with_reducible rfl
 simp only [sE0, sE1]
 refine take_to 5 8 (bQ 11 55) (v := ?_) o23_1_5 rfl o23_1_ns (by kernel_rfl) (by kernel_rfl) (fun _ _ _ h => h) (by rfl) ?y51 (by assumption) ?_
 case y51 => intro w h; (try dsimp only at h); go_simp; try with_reducible rfl
 simp only [sE0, sE1]
 refine take_to 6 9 (bQ 11 119) (v := ?_) o23_1_6 rfl o23_1_ns (by kernel_rfl) (by kernel_rfl) (fun _ _ _ h => h) (by rfl) ?y61 (by assumption) ?_
 case y61 => intro w h; (try dsimp only at h); go_simp; try with_reducible rfl
 simp only [sE0, sE1]
 refine run_to 3 (bQ 11 127) o23_1_3 (by kernel_rfl) (by kernel_rfl) (by rfl) (fun K hK => ?_)
 go_simp
 refine (unless_calls _ _ _).mono ?_
 rintro e w' ⟨rfl, rfl⟩
 go_wp2_with fail
 refine hK.out _ _ ?_ (fun hHeld => ?_)
 ·(exact HS.out _ (by first | assumption | exact hHeld.1 | exact below_step hHeld.1 (by first | assumption | exact below_alloc _ _)))
 clear hK K
 try simp only [Act.put, sEt, sE0, sE1]
 refine run_to 7 (bQ 11 255) o23_1_7 (by kernel_rfl) (by kernel_rfl) (by rfl) (fun K hK => ?_)
 go_simp
 refine (each_calls 69 #[.pointer (some ⟨w.heap.size, 0, none⟩)] (enters_of Tryz.func69 (by kernel_rfl) rfl) (slF xs) xs.length 12 _ hn (fun V i h1 h2 => Hf.out _ V i hHeld.1 h1 h2)).mono ?_
 rintro e w' ⟨rfl, hb⟩
 go_wp2_with fail
 refine hK.out _ _ ?_ (fun hHeld => ?_)
 ·(exact HS.out _ (by first | assumption | exact hHeld.1 | exact below_step hHeld.1 (by first | assumption | exact below_alloc _ _)))
 clear hK K
 try simp only [Act.put, sEt, sE0, sE1]
 refine run_to 8 (bQ 11 511) o23_1_8 (by kernel_rfl) (by kernel_rfl) (by rfl) (fun K hK => ?_)
 go_simp
 refine hK.out _ _ ?_ (fun hHeld => ?_)
 ·(exact HS.out _ (by first | assumption | exact hHeld.1 | exact below_step hHeld.1 (by first | assumption | exact below_alloc _ _)))
 clear hK K
 try simp only [Act.put, sEt, sE0, sE1]
 refine run_to 9 (bQ 11 1023) o23_1_9 (by kernel_rfl) (by kernel_rfl) (by rfl) (fun K hK => ?_)
 go_simp
 refine (orE_calls _ 0 2 [unlessE (decide (0 < xs.length)) 8, eachE xs.length 12 (slF xs)] _ (by simp) (by exact nums2 _ _ _ _)).mono ?_
 rintro e w' ⟨rfl, rfl⟩
 go_wp2_with fail
 refine hK.out _ _ ?_ (fun hHeld => ?_)
 ·(exact HS.out _ (by first | assumption | exact hHeld.1 | exact below_step hHeld.1 (by first | assumption | exact below_alloc _ _)))
 clear hK K
 try simp only [Act.put, sEt, sE0, sE1]
 refine take_to 10 2 (bQ 11 2047) (v := ?_) o23_1_10 rfl o23_1_ns (by kernel_rfl) (by kernel_rfl) (fun _ _ _ h => h) (by rfl) ?y101 (by assumption) ?_
 case y101 => intro w h; (try dsimp only at h); go_simp; try with_reducible rfl
 simp only [sE0, sE1]
 refine wpAnyH_done (by kernel_rfl) ?_ _
 go_wp2_with fail
 go_ret
 exact ⟨ret_int Hr.out.symm, below_step hwW hHeld.1⟩
end Go.Proofs.YtfcaokpadodijaaGreat
/- What is wrong with a list of scorers of whom none may be in a slot. -/
namespace Go.Proofs.YtfcaokpadodijaaGreat
open Go.RowKit

def stAt (ks : List ByteArray) (i : Nat) : ByteArray := ks[i]?.getD ⟨#[]⟩
theorem stAt_some {ks : List ByteArray} {i : Nat} {k : ByteArray} (h : ks[i]? = some k) : stAt ks i = k := by simp [stAt, h]
/-- What is wrong with name i. -/
def wnF (xs : List ScD) (fs : List FiD) (ks : List ByteArray) (i : Nat) : Int :=
 firstE [unlessE (knownB (xs.map ScD.who) (stAt ks i)) 8, unlessE (!cnS (ks.take i) (stAt ks i)) 6, unlessE (!inF fs (stAt ks i)) 13]
def wnE (xs : List ScD) (fs : List FiD) (ks : List ByteArray) : Int := eachE ks.length 20 (wnF xs fs ks)
def zeroO : Obj := .cells #[.string ⟨#[]⟩, .slice none 0 0, .int .i64 0, .int .i64 0, .bool false] 77 (0, 0)
theorem zero_box (w : World) : ∃ X W, w.heap.size = X ∧ w.alloc (.cells #[.string ⟨#[]⟩, .slice none 0 0, .int .i64 0, .int .i64 0, .bool false] 77) = W ∧ W.heap[X]? = some zeroO ∧ Below w.heap.size w W :=
 ⟨_, _, rfl, rfl, heap_alloc_new w _, below_alloc _ _⟩
theorem shareW {A1 A2 A3 A4 : Sort _} {C G : A1 → A2 → A3 → A4 → Prop} {R : Prop} (main : (∀ x1 x2 x3 x4, C x1 x2 x3 x4 → G x1 x2 x3 x4) → R) (tail : ∀ x1 x2 x3 x4, C x1 x2 x3 x4 → G x1 x2 x3 x4) : R := main tail
def o121_1 : Array Go.Oper := #[
 ⟨some 9, .load 28 (.tmp 1), 28, "lineup.go:123", #[], none⟩,
 ⟨some 10, .load 39 (.tmp 2), 39, "lineup.go:123", #[], none⟩,
 ⟨some 11, .move (.tmp 0), 3, "lineup.go:123", #[], none⟩,
 ⟨some 12, .indexAddr 39 (.tmp 10) (.tmp 11), 0, "lineup.go:123", #[⟨1, .data⟩, ⟨2, .data⟩], none⟩,
 ⟨some 13, .load 9 (.tmp 12), 9, "lineup.go:123", #[⟨3, .data⟩], none⟩,
 ⟨some 14, .call { callee := .value (.func 49), args := #[.tmp 9, .tmp 13], argTypes := #[28, 9] }, 86, "lineup.go:123", #[⟨0, .data⟩, ⟨4, .data⟩], none⟩,
 ⟨some 8, .move (.tmp 14), 86, "lineup.go:123", #[⟨5, .data⟩], none⟩,
 ⟨some 15, .extract (.tmp 8) 0, 77, "lineup.go:123", #[⟨6, .data⟩], none⟩,
 ⟨some 16, .extract (.tmp 8) 1, 4, "lineup.go:123", #[⟨6, .data⟩, ⟨10, .gcOnly .lateStores⟩], none⟩,
 ⟨some 6, .alloc 77, 0, "lineup.go:123", #[], none⟩,
 ⟨none, .store 77 (.tmp 6) (.tmp 15), 0, "lineup.go:123", #[⟨9, .data⟩, ⟨7, .data⟩, ⟨5, .chain⟩, ⟨0, .phase⟩, ⟨1, .phase⟩, ⟨2, .phase⟩, ⟨3, .phase⟩, ⟨4, .phase⟩, ⟨5, .phase⟩, ⟨6, .phase⟩, ⟨7, .phase⟩, ⟨8, .textOnly .lateStores⟩, ⟨9, .phase⟩], none⟩,
 ⟨some 7, .assign (.tmp 16), 4, "lineup.go:123", #[⟨8, .data⟩, ⟨10, .chain⟩, ⟨0, .phase⟩, ⟨1, .phase⟩, ⟨2, .phase⟩, ⟨3, .phase⟩, ⟨4, .phase⟩, ⟨5, .phase⟩, ⟨6, .phase⟩, ⟨7, .phase⟩, ⟨8, .phase⟩, ⟨9, .phase⟩, ⟨10, .phase⟩], none⟩]
theorem o121_1_0 : o121_1[0]? = some (⟨some 9, .load 28 (.tmp 1), 28, "lineup.go:123", #[], none⟩ : Go.Oper) := rfl
theorem o121_1_1 : o121_1[1]? = some (⟨some 10, .load 39 (.tmp 2), 39, "lineup.go:123", #[], none⟩ : Go.Oper) := rfl
theorem o121_1_2 : o121_1[2]? = some (⟨some 11, .move (.tmp 0), 3, "lineup.go:123", #[], none⟩ : Go.Oper) := rfl
theorem o121_1_3 : o121_1[3]? = some (⟨some 12, .indexAddr 39 (.tmp 10) (.tmp 11), 0, "lineup.go:123", #[⟨1, .data⟩, ⟨2, .data⟩], none⟩ : Go.Oper) := rfl
theorem o121_1_4 : o121_1[4]? = some (⟨some 13, .load 9 (.tmp 12), 9, "lineup.go:123", #[⟨3, .data⟩], none⟩ : Go.Oper) := rfl
theorem o121_1_5 : o121_1[5]? = some (⟨some 14, .call { callee := .value (.func 49), args := #[.tmp 9, .tmp 13], argTypes := #[28, 9] }, 86, "lineup.go:123", #[⟨0, .data⟩, ⟨4, .data⟩], none⟩ : Go.Oper) := rfl
theorem o121_1_6 : o121_1[6]? = some (⟨some 8, .move (.tmp 14), 86, "lineup.go:123", #[⟨5, .data⟩], none⟩ : Go.Oper) := rfl
theorem o121_1_7 : o121_1[7]? = some (⟨some 15, .extract (.tmp 8) 0, 77, "lineup.go:123", #[⟨6, .data⟩], none⟩ : Go.Oper) := rfl
theorem o121_1_8 : o121_1[8]? = some (⟨some 16, .extract (.tmp 8) 1, 4, "lineup.go:123", #[⟨6, .data⟩, ⟨10, .gcOnly .lateStores⟩], none⟩ : Go.Oper) := rfl
theorem o121_1_9 : o121_1[9]? = some (⟨some 6, .alloc 77, 0, "lineup.go:123", #[], none⟩ : Go.Oper) := rfl
theorem o121_1_10 : o121_1[10]? = some (⟨none, .store 77 (.tmp 6) (.tmp 15), 0, "lineup.go:123", #[⟨9, .data⟩, ⟨7, .data⟩, ⟨5, .chain⟩, ⟨0, .phase⟩, ⟨1, .phase⟩, ⟨2, .phase⟩, ⟨3, .phase⟩, ⟨4, .phase⟩, ⟨5, .phase⟩, ⟨6, .phase⟩, ⟨7, .phase⟩, ⟨8, .textOnly .lateStores⟩, ⟨9, .phase⟩], none⟩ : Go.Oper) := rfl
theorem o121_1_11 : o121_1[11]? = some (⟨some 7, .assign (.tmp 16), 4, "lineup.go:123", #[⟨8, .data⟩, ⟨10, .chain⟩, ⟨0, .phase⟩, ⟨1, .phase⟩, ⟨2, .phase⟩, ⟨3, .phase⟩, ⟨4, .phase⟩, ⟨5, .phase⟩, ⟨6, .phase⟩, ⟨7, .phase⟩, ⟨8, .phase⟩, ⟨9, .phase⟩, ⟨10, .phase⟩], none⟩ : Go.Oper) := rfl
def o121_2 : Array Go.Oper := #[
 ⟨some 17, .move (.tmp 7), 4, "lineup.go:124", #[], none⟩,
 ⟨some 18, .call { callee := .value (.func 47), args := #[.tmp 17, .const (.int .i64 8)], argTypes := #[4, 35] }, 35, "lineup.go:125", #[⟨0, .data⟩], none⟩,
 ⟨some 19, .load 39 (.tmp 2), 39, "lineup.go:124", #[], none⟩,
 ⟨some 20, .move (.tmp 0), 3, "lineup.go:124", #[], none⟩,
 ⟨some 21, .slice 39 (.tmp 19) none (some (.tmp 20)) none, 39, "lineup.go:124", #[⟨2, .data⟩, ⟨3, .data⟩], none⟩,
 ⟨some 22, .load 39 (.tmp 2), 39, "lineup.go:124", #[], none⟩,
 ⟨some 23, .move (.tmp 0), 3, "lineup.go:124", #[], none⟩,
 ⟨some 24, .indexAddr 39 (.tmp 22) (.tmp 23), 0, "lineup.go:124", #[⟨5, .data⟩, ⟨6, .data⟩], none⟩,
 ⟨some 25, .load 9 (.tmp 24), 9, "lineup.go:124", #[⟨7, .data⟩], none⟩,
 ⟨some 26, .call { callee := .value (.func 45), args := #[.tmp 21, .tmp 25], argTypes := #[39, 9] }, 4, "lineup.go:126", #[⟨4, .data⟩, ⟨8, .data⟩, ⟨1, .chain⟩], none⟩,
 ⟨some 27, .unOp .not 4 (.tmp 26), 4, "lineup.go:124", #[⟨9, .data⟩], none⟩,
 ⟨some 28, .call { callee := .value (.func 47), args := #[.tmp 27, .const (.int .i64 6)], argTypes := #[4, 35] }, 35, "lineup.go:126", #[⟨10, .data⟩, ⟨9, .chain⟩], none⟩,
 ⟨some 29, .load 30 (.tmp 3), 30, "lineup.go:124", #[], none⟩,
 ⟨some 30, .load 39 (.tmp 2), 39, "lineup.go:124", #[], none⟩,
 ⟨some 31, .move (.tmp 0), 3, "lineup.go:124", #[], none⟩,
 ⟨some 32, .indexAddr 39 (.tmp 30) (.tmp 31), 0, "lineup.go:124", #[⟨13, .data⟩, ⟨14, .data⟩], none⟩,
 ⟨some 33, .load 9 (.tmp 32), 9, "lineup.go:124", #[⟨15, .data⟩], none⟩,
 ⟨some 34, .call { callee := .value (.func 48), args := #[.tmp 29, .tmp 33], argTypes := #[30, 9] }, 4, "lineup.go:127", #[⟨12, .data⟩, ⟨16, .data⟩, ⟨11, .chain⟩], none⟩,
 ⟨some 35, .unOp .not 4 (.tmp 34), 4, "lineup.go:124", #[⟨17, .data⟩], none⟩,
 ⟨some 36, .call { callee := .value (.func 47), args := #[.tmp 35, .const (.int .i64 13)], argTypes := #[4, 35] }, 35, "lineup.go:127", #[⟨18, .data⟩, ⟨17, .chain⟩], none⟩,
 ⟨some 37, .buildSlice 90 3 #[(0, .tmp 18), (1, .tmp 28), (2, .tmp 36)], 90, "lineup.go:124", #[⟨1, .data⟩, ⟨11, .data⟩, ⟨19, .data⟩], none⟩,
 ⟨some 38, .call { callee := .value (.func 46), args := #[.tmp 37], argTypes := #[90] }, 35, "lineup.go:124", #[⟨20, .data⟩, ⟨19, .chain⟩], none⟩,
 ⟨some 5, .assign (.tmp 38), 35, "lineup.go:124", #[⟨21, .data⟩, ⟨21, .chain⟩, ⟨0, .phase⟩, ⟨1, .phase⟩, ⟨2, .phase⟩, ⟨3, .phase⟩, ⟨4, .phase⟩, ⟨5, .phase⟩, ⟨6, .phase⟩, ⟨7, .phase⟩, ⟨8, .phase⟩, ⟨9, .phase⟩, ⟨10, .phase⟩, ⟨11, .phase⟩, ⟨12, .phase⟩, ⟨13, .phase⟩, ⟨14, .phase⟩, ⟨15, .phase⟩, ⟨16, .phase⟩, ⟨17, .phase⟩, ⟨18, .phase⟩, ⟨19, .phase⟩, ⟨20, .phase⟩, ⟨21, .phase⟩], none⟩]
theorem o121_2_0 : o121_2[0]? = some (⟨some 17, .move (.tmp 7), 4, "lineup.go:124", #[], none⟩ : Go.Oper) := rfl
theorem o121_2_1 : o121_2[1]? = some (⟨some 18, .call { callee := .value (.func 47), args := #[.tmp 17, .const (.int .i64 8)], argTypes := #[4, 35] }, 35, "lineup.go:125", #[⟨0, .data⟩], none⟩ : Go.Oper) := rfl
theorem o121_2_2 : o121_2[2]? = some (⟨some 19, .load 39 (.tmp 2), 39, "lineup.go:124", #[], none⟩ : Go.Oper) := rfl
theorem o121_2_3 : o121_2[3]? = some (⟨some 20, .move (.tmp 0), 3, "lineup.go:124", #[], none⟩ : Go.Oper) := rfl
theorem o121_2_4 : o121_2[4]? = some (⟨some 21, .slice 39 (.tmp 19) none (some (.tmp 20)) none, 39, "lineup.go:124", #[⟨2, .data⟩, ⟨3, .data⟩], none⟩ : Go.Oper) := rfl
theorem o121_2_5 : o121_2[5]? = some (⟨some 22, .load 39 (.tmp 2), 39, "lineup.go:124", #[], none⟩ : Go.Oper) := rfl
theorem o121_2_6 : o121_2[6]? = some (⟨some 23, .move (.tmp 0), 3, "lineup.go:124", #[], none⟩ : Go.Oper) := rfl
theorem o121_2_7 : o121_2[7]? = some (⟨some 24, .indexAddr 39 (.tmp 22) (.tmp 23), 0, "lineup.go:124", #[⟨5, .data⟩, ⟨6, .data⟩], none⟩ : Go.Oper) := rfl
theorem o121_2_8 : o121_2[8]? = some (⟨some 25, .load 9 (.tmp 24), 9, "lineup.go:124", #[⟨7, .data⟩], none⟩ : Go.Oper) := rfl
theorem o121_2_9 : o121_2[9]? = some (⟨some 26, .call { callee := .value (.func 45), args := #[.tmp 21, .tmp 25], argTypes := #[39, 9] }, 4, "lineup.go:126", #[⟨4, .data⟩, ⟨8, .data⟩, ⟨1, .chain⟩], none⟩ : Go.Oper) := rfl
theorem o121_2_10 : o121_2[10]? = some (⟨some 27, .unOp .not 4 (.tmp 26), 4, "lineup.go:124", #[⟨9, .data⟩], none⟩ : Go.Oper) := rfl
theorem o121_2_11 : o121_2[11]? = some (⟨some 28, .call { callee := .value (.func 47), args := #[.tmp 27, .const (.int .i64 6)], argTypes := #[4, 35] }, 35, "lineup.go:126", #[⟨10, .data⟩, ⟨9, .chain⟩], none⟩ : Go.Oper) := rfl
theorem o121_2_12 : o121_2[12]? = some (⟨some 29, .load 30 (.tmp 3), 30, "lineup.go:124", #[], none⟩ : Go.Oper) := rfl
theorem o121_2_13 : o121_2[13]? = some (⟨some 30, .load 39 (.tmp 2), 39, "lineup.go:124", #[], none⟩ : Go.Oper) := rfl
theorem o121_2_14 : o121_2[14]? = some (⟨some 31, .move (.tmp 0), 3, "lineup.go:124", #[], none⟩ : Go.Oper) := rfl
theorem o121_2_15 : o121_2[15]? = some (⟨some 32, .indexAddr 39 (.tmp 30) (.tmp 31), 0, "lineup.go:124", #[⟨13, .data⟩, ⟨14, .data⟩], none⟩ : Go.Oper) := rfl
theorem o121_2_16 : o121_2[16]? = some (⟨some 33, .load 9 (.tmp 32), 9, "lineup.go:124", #[⟨15, .data⟩], none⟩ : Go.Oper) := rfl
theorem o121_2_17 : o121_2[17]? = some (⟨some 34, .call { callee := .value (.func 48), args := #[.tmp 29, .tmp 33], argTypes := #[30, 9] }, 4, "lineup.go:127", #[⟨12, .data⟩, ⟨16, .data⟩, ⟨11, .chain⟩], none⟩ : Go.Oper) := rfl
theorem o121_2_18 : o121_2[18]? = some (⟨some 35, .unOp .not 4 (.tmp 34), 4, "lineup.go:124", #[⟨17, .data⟩], none⟩ : Go.Oper) := rfl
theorem o121_2_19 : o121_2[19]? = some (⟨some 36, .call { callee := .value (.func 47), args := #[.tmp 35, .const (.int .i64 13)], argTypes := #[4, 35] }, 35, "lineup.go:127", #[⟨18, .data⟩, ⟨17, .chain⟩], none⟩ : Go.Oper) := rfl
theorem o121_2_20 : o121_2[20]? = some (⟨some 37, .buildSlice 90 3 #[(0, .tmp 18), (1, .tmp 28), (2, .tmp 36)], 90, "lineup.go:124", #[⟨1, .data⟩, ⟨11, .data⟩, ⟨19, .data⟩], none⟩ : Go.Oper) := rfl
theorem o121_2_21 : o121_2[21]? = some (⟨some 38, .call { callee := .value (.func 46), args := #[.tmp 37], argTypes := #[90] }, 35, "lineup.go:124", #[⟨20, .data⟩, ⟨19, .chain⟩], none⟩ : Go.Oper) := rfl
theorem o121_2_22 : o121_2[22]? = some (⟨some 5, .assign (.tmp 38), 35, "lineup.go:124", #[⟨21, .data⟩, ⟨21, .chain⟩, ⟨0, .phase⟩, ⟨1, .phase⟩, ⟨2, .phase⟩, ⟨3, .phase⟩, ⟨4, .phase⟩, ⟨5, .phase⟩, ⟨6, .phase⟩, ⟨7, .phase⟩, ⟨8, .phase⟩, ⟨9, .phase⟩, ⟨10, .phase⟩, ⟨11, .phase⟩, ⟨12, .phase⟩, ⟨13, .phase⟩, ⟨14, .phase⟩, ⟨15, .phase⟩, ⟨16, .phase⟩, ⟨17, .phase⟩, ⟨18, .phase⟩, ⟨19, .phase⟩, ⟨20, .phase⟩, ⟨21, .phase⟩], none⟩ : Go.Oper) := rfl
theorem o121_2_ns : Go.Region.noSelect o121_2 = true := by kernel_rfl
set_option maxRecDepth 100000 in
set_option maxHeartbeats 16000000 in
theorem wrongNames1_calls (b1 b2 b3 g off cap i lo lo' lo3 : Nat) (v u : Value) (xs : List ScD) (fs : List FiD) (ks : List ByteArray) (k : ByteArray) (w : World) (hi : ks[i]? = some k) (hn : ks.length ≤ 1000000)
  (h1 : w.cell? ⟨b1, 0, none⟩ = some v) (hC : Scs w lo v xs) (hlo : lo ≤ w.heap.size) (h2 : w.cell? ⟨b2, 0, none⟩ = some (.slice (some ⟨g, off, none⟩) ks.length cap)) (hK : Strs w lo' (.slice (some ⟨g, off, none⟩) ks.length cap) ks)
  (h3 : w.cell? ⟨b3, 0, none⟩ = some u) (hF : Fis w lo3 u fs) :
  Calls Tryz.prog 121 #[.int .i64 (i : Int), .pointer (some ⟨b1, 0, none⟩), .pointer (some ⟨b2, 0, none⟩), .pointer (some ⟨b3, 0, none⟩)] w (IntBelow (wnF xs fs ks i) w) := by
 have hlt : i < ks.length := (List.getElem?_eq_some_iff.1 hi).1
 rcases strs_at hK with ⟨h, _⟩ | ⟨g', off', cap', e, _, _, _, hcell⟩
 ·cases h
 simp only [Value.slice.injEq, Option.some.injEq, Addr.mk.injEq, and_true, true_and] at e
 obtain ⟨⟨rfl, rfl⟩, rfl⟩ := e
 have k0 := hcell i k hi
 have hfit : ks.length ≤ cap := Rows.fits hK
 have hlt' : (i : Int) < (ks.length : Int) := by omega
 have hic : i ≤ cap := by omega
 have hil : i ≤ ks.length := by omega
 have HC := Lib.hid hC
 have HT := Lib.hid (show Strs w lo' (.slice (some ⟨g, off, none⟩) i cap) (ks.take i) from by
  have := rows_take hK (m := i) (by simp) (by omega)
  rw [← List.map_take] at this
  exact this)
 have HF := Lib.hid hF
 obtain ⟨a, c, rfl⟩ := NRows.shape hC
 obtain ⟨a', c', rfl⟩ := fis_shape hF
 have Hr := Lib.hid (show wnF xs fs ks i = firstE [unlessE (knownB (xs.map ScD.who) k) 8, unlessE (!cnS (ks.take i) k) 6, unlessE (!inF fs k) 13] by unfold wnF; rw [stAt_some hi])
 have HS := Lib.hid (show ∀ w', Below w.heap.size w w' → (Below w.heap.size w w' ∧ w'.cell? ⟨b1, 0, none⟩ = some (.slice a xs.length c) ∧ w'.cell? ⟨b2, 0, none⟩ = some (.slice (some ⟨g, off, none⟩) ks.length cap) ∧ w'.cell? ⟨g, off + i, none⟩ = some (.string k) ∧ w'.cell? ⟨b3, 0, none⟩ = some (.slice a' fs.length c')) from fun w' hb => ⟨hb, below_cell hb h1, below_cell hb h2, below_cell hb k0, below_cell hb h3⟩)
 have hC0 := HS.out _ (Below.refl w.heap.size w).drew
 clear hC hF hK hi hcell h1 h2 h3 k0
 go_enter Tryz.func121, Tryz.ntmps121
 go_upto_region 1 with fail
 show Code.wp _ (Code.region 1 o121_1 true) _ _ _
 refine regionC_start 12 (fun w' => Below w.heap.size w w' ∧ w'.cell? ⟨b1, 0, none⟩ = some (.slice a xs.length c) ∧ w'.cell? ⟨b2, 0, none⟩ = some (.slice (some ⟨g, off, none⟩) ks.length cap) ∧ w'.cell? ⟨g, off + i, none⟩ = some (.string k) ∧ w'.cell? ⟨b3, 0, none⟩ = some (.slice a' fs.length c')) (fun j => [0, 1, 3, 4, 9].contains j) (by kernel_rfl) rfl ?_
 generalize w.drew = W4 at hC0 ⊢
 apply shareW (C := fun (xa : Option Addr) (xc X : Nat) (W : World) => W.heap[X]? = some zeroO ∧ w.heap.size ≤ X ∧ Below w.heap.size w W)
 ·intro tail
  refine takeC 2 11 (v := ?_) o121_1_2 rfl (by kernel_rfl) (by kernel_rfl) (by kernel_rfl) (by rfl) (fun _ _ _ h => h) (by rfl) ?y2_1 ?_
  case y2_1 => intro w; go_simp; try with_reducible rfl
  simp only [sE0, sE1]; refine loadC 0 9 (v := ?_) o121_1_0 rfl (by kernel_rfl) (by kernel_rfl) (by kernel_rfl) (by kernel_rfl) (fun _ _ _ h => h) (by rfl) ?y0_2 (by exact hC0) ?_
  case y0_2 => intro w h; (try dsimp only at h); go_simp; try with_reducible rfl
  simp only [sE0, sE1]; refine loadC 1 10 (v := ?_) o121_1_1 rfl (by kernel_rfl) (by kernel_rfl) (by kernel_rfl) (by kernel_rfl) (fun _ _ _ h => h) (by rfl) ?y1_3 (by exact hC0) ?_
  case y1_3 => intro w h; (try dsimp only at h); go_simp; try with_reducible rfl
  simp only [sE0, sE1]; refine loadC 3 12 (v := ?_) o121_1_3 rfl (by kernel_rfl) (by kernel_rfl) (by kernel_rfl) (by kernel_rfl) (fun _ _ _ h => h) (by rfl) ?y3_4 (by exact hC0) ?_
  case y3_4 => intro w h; (try dsimp only at h); go_simp; try with_reducible rfl
  simp only [sE0, sE1]; refine loadC 4 13 (v := ?_) o121_1_4 rfl (by kernel_rfl) (by kernel_rfl) (by kernel_rfl) (by kernel_rfl) (fun _ _ _ h => h) (by rfl) ?y4_5 (by exact hC0) ?_
  case y4_5 => intro w h; (try dsimp only at h); go_simp; try with_reducible rfl
  simp only [sE0, sE1]; refine readyC (rs := [5, 9]) (by kernel_rfl) (by simp) (each_cons (runC o121_1_5 (by rfl) (fun K hK => ?_)) (each_cons (runC o121_1_9 (by rfl) (fun K hK => ?_)) each_nil))
  ·go_simp
   refine (find_calls lo _ xs k _ (NRows.below HC.out hC0.1) (by have := hC0.1.size; omega)).mono ?_
   rintro e w' ⟨x, rfl, hx, hb'⟩; obtain ⟨xa, xc, rfl⟩ := strs_shape hx; replace hC0 := HS.out _ (below_step hC0.1 hb'); try replace hX := cells_later hX hb'
   clear hx hb'; go_wp2_with fail
   refine hK.out _ _ (fun h => absurd h (by decide)) ?_
   clear hK K; try simp only [Act.put, sEt, sE0, sE1]
   refine takeC 6 8 (v := ?_) o121_1_6 rfl (by kernel_rfl) (by kernel_rfl) (by kernel_rfl) (by rfl) (fun _ _ _ h => h) (by rfl) ?y6_6 ?_
   case y6_6 => intro w; go_simp; try with_reducible rfl
   simp only [sE0, sE1]; refine takeC 7 15 (v := ?_) o121_1_7 rfl (by kernel_rfl) (by kernel_rfl) (by kernel_rfl) (by rfl) (fun _ _ _ h => h) (by rfl) ?y7_7 ?_
   case y7_7 => intro w; go_simp; try with_reducible rfl
   simp only [sE0, sE1]; refine takeC 8 16 (v := ?_) o121_1_8 rfl (by kernel_rfl) (by kernel_rfl) (by kernel_rfl) (by rfl) (fun _ _ _ h => h) (by rfl) ?y8_8 ?_
   case y8_8 => intro w; go_simp; try with_reducible rfl
   simp only [sE0, sE1]; refine readyC (rs := [9]) (by kernel_rfl) (by simp) (each_cons (runC o121_1_9 (by rfl) (fun K hK => ?_)) each_nil)
   go_simp; obtain ⟨X, W9, e9, f9, hX, hb9⟩ := zero_box _; rw [e9, f9]; have hwX : w.heap.size ≤ X := by rw [← e9]; exact hC0.1.size
   clear e9 f9; replace hC0 := HS.out _ (below_step hC0.1 hb9); clear hb9; go_wp2_with fail
   refine hK.out _ _ (fun _ => ?_) ?_
   ·(exact hC0)
   clear hK K; try simp only [Act.put, sEt, sE0, sE1]
   refine sameC (l' := (bQ 12 1023)) (by kernel_rfl) ?_
   first | exact tail xa xc X W9 ⟨hX, hwX, hC0.1⟩ | exact tail xa xc X w' ⟨hX, hwX, hC0.1⟩
  ·go_simp
   obtain ⟨X, W9, e9, f9, hX, hb9⟩ := zero_box _; rw [e9, f9]; have hwX : w.heap.size ≤ X := by rw [← e9]; exact hC0.1.size
   clear e9 f9; replace hC0 := HS.out _ (below_step hC0.1 hb9); clear hb9; go_wp2_with fail
   refine hK.out _ _ (fun _ => ?_) ?_
   ·(exact hC0)
   clear hK K; try simp only [Act.put, sEt, sE0, sE1]
   refine readyC (rs := [5]) (by kernel_rfl) (by simp) (each_cons (runC o121_1_5 (by rfl) (fun K hK => ?_)) each_nil)
   go_simp; refine (find_calls lo _ xs k _ (NRows.below HC.out hC0.1) (by have := hC0.1.size; omega)).mono ?_
   rintro e w' ⟨x, rfl, hx, hb'⟩; obtain ⟨xa, xc, rfl⟩ := strs_shape hx; replace hC0 := HS.out _ (below_step hC0.1 hb'); try replace hX := cells_later hX hb'
   clear hx hb'; go_wp2_with fail
   refine hK.out _ _ (fun h => absurd h (by decide)) ?_
   clear hK K; try simp only [Act.put, sEt, sE0, sE1]
   refine takeC 6 8 (v := ?_) o121_1_6 rfl (by kernel_rfl) (by kernel_rfl) (by kernel_rfl) (by rfl) (fun _ _ _ h => h) (by rfl) ?y6_9 ?_
   case y6_9 => intro w; go_simp; try with_reducible rfl
   simp only [sE0, sE1]; refine takeC 7 15 (v := ?_) o121_1_7 rfl (by kernel_rfl) (by kernel_rfl) (by kernel_rfl) (by rfl) (fun _ _ _ h => h) (by rfl) ?y7_10 ?_
   case y7_10 => intro w; go_simp; try with_reducible rfl
   simp only [sE0, sE1]; refine takeC 8 16 (v := ?_) o121_1_8 rfl (by kernel_rfl) (by kernel_rfl) (by kernel_rfl) (by rfl) (fun _ _ _ h => h) (by rfl) ?y8_11 ?_
   case y8_11 => intro w; go_simp; try with_reducible rfl
   simp only [sE0, sE1]; refine sameC (l' := (bQ 12 1023)) (by kernel_rfl) ?_
   first | exact tail xa xc X W9 ⟨hX, hwX, hC0.1⟩ | exact tail xa xc X w' ⟨hX, hwX, hC0.1⟩
 ·intro xa xc X W ⟨hX, hwX, hbW⟩
  refine readyC (rs := [10]) (by kernel_rfl) (by simp) (each_cons (runC o121_1_10 (by rfl) (fun K hK => ?_)) each_nil)
  unfold zeroO at hX
  have x0 := cell_at hX 0 rfl; have x1 := cell_at hX 1 rfl; have x2 := cell_at hX 2 rfl; have x3 := cell_at hX 3 rfl; have x4 := cell_at hX 4 rfl; have f0 := free_of hX 0; have f1 := free_of hX 1; have f2 := free_of hX 2; have f3 := free_of hX 3; have f4 := free_of hX 4; go_simp; refine hK.out _ _ (fun h => absurd h (by decide)) ?_
  clear hK K; try simp only [sEt, sE0, sE1]
  refine takeC 11 7 (v := ?_) o121_1_11 rfl (by kernel_rfl) (by kernel_rfl) (by kernel_rfl) (by rfl) (fun _ _ _ h => h) (by rfl) ?y11_12 ?_
  case y11_12 => intro w; go_simp; try with_reducible rfl
  simp only [sE0, sE1]; refine doneC (by kernel_rfl) ?_ _
  go_upto_region 2 with fail
  obtain ⟨W2, hW2⟩ : ∃ W2, W2 = ((((W.setCell ⟨X, 0, none⟩ (.string (fndC xs k).who)).setCell ⟨X, 1, none⟩ (.slice xa (fndC xs k).pos.length xc)).setCell ⟨X, 2, none⟩ (.int .i64 (fndC xs k).num)).setCell ⟨X, 3, none⟩ (.int .i64 (fndC xs k).den)).setCell ⟨X, 4, none⟩ (.bool (fndC xs k).played) := ⟨_, rfl⟩
  have hb02 : Below w.heap.size w W2 := by rw [hW2]; exact below_set5 hbW hwX _ _ _ _ _
  rw [← hW2]; clear hW2 hX hbW hwX; have HS2 := Lib.hid (show ∀ w', Below W2.heap.size W2 w' → (Below W2.heap.size W2 w' ∧ w'.cell? ⟨b1, 0, none⟩ = some (.slice a xs.length c) ∧ w'.cell? ⟨b2, 0, none⟩ = some (.slice (some ⟨g, off, none⟩) ks.length cap) ∧ w'.cell? ⟨g, off + i, none⟩ = some (.string k) ∧ w'.cell? ⟨b3, 0, none⟩ = some (.slice a' fs.length c')) from fun w' hb => ⟨hb, (HS.out _ (below_step hb02 hb)).2⟩)
  have hb0 := (Below.refl W2.heap.size W2).drew; generalize knownB (xs.map ScD.who) k = KB at Hr ⊢
  show Code.wp _ (Code.region 2 o121_2 true) _ _ _
  refine region_start 23 (fun w' => Below W2.heap.size W2 w' ∧ w'.cell? ⟨b1, 0, none⟩ = some (.slice a xs.length c) ∧ w'.cell? ⟨b2, 0, none⟩ = some (.slice (some ⟨g, off, none⟩) ks.length cap) ∧ w'.cell? ⟨g, off + i, none⟩ = some (.string k) ∧ w'.cell? ⟨b3, 0, none⟩ = some (.slice a' fs.length c')) (by kernel_rfl) rfl ?_ (fun hHeld => ?_)
  ·(exact HS2.out _ (by first | assumption | exact hHeld.1 | exact below_step hHeld.1 (by first | assumption | exact below_alloc _ _)))
  refine take_to 0 17 (bQ 23 1) (v := ?_) o121_2_0 rfl o121_2_ns (by kernel_rfl) (by kernel_rfl) (fun _ _ _ h => h) (by rfl) ?y02 (by assumption) ?_
  case y02 => intro w h; (try dsimp only at h); go_simp; try with_reducible rfl
  simp only [sE0, sE1]; refine take_to 2 19 (bQ 23 5) (v := ?_) o121_2_2 rfl o121_2_ns (by kernel_rfl) (by kernel_rfl) (fun _ _ _ h => h) (by rfl) ?y22 (by assumption) ?_
  case y22 => intro w h; (try dsimp only at h); go_simp; try with_reducible rfl
  simp only [sE0, sE1]; refine take_to 3 20 (bQ 23 13) (v := ?_) o121_2_3 rfl o121_2_ns (by kernel_rfl) (by kernel_rfl) (fun _ _ _ h => h) (by rfl) ?y32 (by assumption) ?_
  case y32 => intro w h; (try dsimp only at h); go_simp; try with_reducible rfl
  simp only [sE0, sE1]; refine take_to 4 21 (bQ 23 29) (v := ?_) o121_2_4 rfl o121_2_ns (by kernel_rfl) (by kernel_rfl) (fun _ _ _ h => h) (by rfl) ?y42 (by assumption) ?_
  case y42 => intro w h; (try dsimp only at h); go_simp; try with_reducible rfl
  simp only [sE0, sE1]; refine take_to 5 22 (bQ 23 61) (v := ?_) o121_2_5 rfl o121_2_ns (by kernel_rfl) (by kernel_rfl) (fun _ _ _ h => h) (by rfl) ?y52 (by assumption) ?_
  case y52 => intro w h; (try dsimp only at h); go_simp; try with_reducible rfl
  simp only [sE0, sE1]; refine take_to 6 23 (bQ 23 125) (v := ?_) o121_2_6 rfl o121_2_ns (by kernel_rfl) (by kernel_rfl) (fun _ _ _ h => h) (by rfl) ?y62 (by assumption) ?_
  case y62 => intro w h; (try dsimp only at h); go_simp; try with_reducible rfl
  simp only [sE0, sE1]; refine take_to 7 24 (bQ 23 253) (v := ?_) o121_2_7 rfl o121_2_ns (by kernel_rfl) (by kernel_rfl) (fun _ _ _ h => h) (by rfl) ?y72 (by assumption) ?_
  case y72 => intro w h; (try dsimp only at h); go_simp; try with_reducible rfl
  simp only [sE0, sE1]; refine take_to 8 25 (bQ 23 509) (v := ?_) o121_2_8 rfl o121_2_ns (by kernel_rfl) (by kernel_rfl) (fun _ _ _ h => h) (by rfl) ?y82 (by assumption) ?_
  case y82 => intro w h; (try dsimp only at h); go_simp; try with_reducible rfl
  simp only [sE0, sE1]; refine take_to 12 29 (bQ 23 4605) (v := ?_) o121_2_12 rfl o121_2_ns (by kernel_rfl) (by kernel_rfl) (fun _ _ _ h => h) (by rfl) ?y122 (by assumption) ?_
  case y122 => intro w h; (try dsimp only at h); go_simp; try with_reducible rfl
  simp only [sE0, sE1]; refine take_to 13 30 (bQ 23 12797) (v := ?_) o121_2_13 rfl o121_2_ns (by kernel_rfl) (by kernel_rfl) (fun _ _ _ h => h) (by rfl) ?y132 (by assumption) ?_
  case y132 => intro w h; (try dsimp only at h); go_simp; try with_reducible rfl
  simp only [sE0, sE1]; refine take_to 14 31 (bQ 23 29181) (v := ?_) o121_2_14 rfl o121_2_ns (by kernel_rfl) (by kernel_rfl) (fun _ _ _ h => h) (by rfl) ?y142 (by assumption) ?_
  case y142 => intro w h; (try dsimp only at h); go_simp; try with_reducible rfl
  simp only [sE0, sE1]; refine take_to 15 32 (bQ 23 61949) (v := ?_) o121_2_15 rfl o121_2_ns (by kernel_rfl) (by kernel_rfl) (fun _ _ _ h => h) (by rfl) ?y152 (by assumption) ?_
  case y152 => intro w h; (try dsimp only at h); go_simp; try with_reducible rfl
  simp only [sE0, sE1]; refine take_to 16 33 (bQ 23 127485) (v := ?_) o121_2_16 rfl o121_2_ns (by kernel_rfl) (by kernel_rfl) (fun _ _ _ h => h) (by rfl) ?y162 (by assumption) ?_
  case y162 => intro w h; (try dsimp only at h); go_simp; try with_reducible rfl
  simp only [sE0, sE1]; refine run_to 1 (bQ 23 127487) o121_2_1 (by kernel_rfl) (by kernel_rfl) (by rfl) (fun K hK => ?_)
  go_simp; refine (unless_calls _ _ _).mono ?_; rintro e w' ⟨rfl, rfl⟩; go_wp2_with fail
  refine hK.out _ _ ?_ (fun hHeld => ?_)
  ·(exact HS2.out _ (by first | assumption | exact hHeld.1 | exact below_step hHeld.1 (by first | assumption | exact below_alloc _ _)))
  clear hK K; try simp only [Act.put, sEt, sE0, sE1]
  refine run_to 9 (bQ 23 127999) o121_2_9 (by kernel_rfl) (by kernel_rfl) (by rfl) (fun K hK => ?_)
  go_simp; refine (contains_calls lo' _ (ks.take i) k _ (HT.out.below (hb02.trans (hHeld.1.mono hb02.size)))).mono ?_; rintro e w' ⟨rfl, rfl⟩; go_wp2_with fail
  refine hK.out _ _ ?_ (fun hHeld => ?_)
  ·(exact HS2.out _ (by first | assumption | exact hHeld.1 | exact below_step hHeld.1 (by first | assumption | exact below_alloc _ _)))
  clear hK K; try simp only [Act.put, sEt, sE0, sE1]
  refine take_to 10 27 (bQ 23 129023) (v := ?_) o121_2_10 rfl o121_2_ns (by kernel_rfl) (by kernel_rfl) (fun _ _ _ h => h) (by rfl) ?y102 (by assumption) ?_
  case y102 => intro w h; (try dsimp only at h); go_simp; try with_reducible rfl
  simp only [sE0, sE1]; refine run_to 11 (bQ 23 131071) o121_2_11 (by kernel_rfl) (by kernel_rfl) (by rfl) (fun K hK => ?_)
  go_simp; refine (unless_calls _ _ _).mono ?_; rintro e w' ⟨rfl, rfl⟩; go_wp2_with fail
  refine hK.out _ _ ?_ (fun hHeld => ?_)
  ·(exact HS2.out _ (by first | assumption | exact hHeld.1 | exact below_step hHeld.1 (by first | assumption | exact below_alloc _ _)))
  clear hK K; try simp only [Act.put, sEt, sE0, sE1]
  refine run_to 17 (bQ 23 262143) o121_2_17 (by kernel_rfl) (by kernel_rfl) (by rfl) (fun K hK => ?_)
  go_simp; refine (fielded_calls lo3 _ fs k _ (HF.out.below (hb02.trans (hHeld.1.mono hb02.size)))).mono ?_; rintro e w' ⟨rfl, hb⟩; go_wp2_with fail
  refine hK.out _ _ ?_ (fun hHeld => ?_)
  ·(exact HS2.out _ (by first | assumption | exact hHeld.1 | exact below_step hHeld.1 (by first | assumption | exact below_alloc _ _)))
  clear hK K; try simp only [Act.put, sEt, sE0, sE1]
  refine take_to 18 35 (bQ 23 524287) (v := ?_) o121_2_18 rfl o121_2_ns (by kernel_rfl) (by kernel_rfl) (fun _ _ _ h => h) (by rfl) ?y182 (by assumption) ?_
  case y182 => intro w h; (try dsimp only at h); go_simp; try with_reducible rfl
  simp only [sE0, sE1]; refine run_to 19 (bQ 23 1048575) o121_2_19 (by kernel_rfl) (by kernel_rfl) (by rfl) (fun K hK => ?_)
  go_simp; refine (unless_calls _ _ _).mono ?_; rintro e w' ⟨rfl, rfl⟩; go_wp2_with fail
  refine hK.out _ _ ?_ (fun hHeld => ?_)
  ·(exact HS2.out _ (by first | assumption | exact hHeld.1 | exact below_step hHeld.1 (by first | assumption | exact below_alloc _ _)))
  clear hK K; try simp only [Act.put, sEt, sE0, sE1]
  refine run_to 20 (bQ 23 2097151) o121_2_20 (by kernel_rfl) (by kernel_rfl) (by rfl) (fun K hK => ?_)
  go_simp; refine hK.out _ _ ?_ (fun hHeld => ?_)
  ·(exact HS2.out _ (by first | assumption | exact hHeld.1 | exact below_step hHeld.1 (by first | assumption | exact below_alloc _ _)))
  clear hK K; try simp only [Act.put, sEt, sE0, sE1]
  refine run_to 21 (bQ 23 4194303) o121_2_21 (by kernel_rfl) (by kernel_rfl) (by rfl) (fun K hK => ?_)
  go_simp; refine (orE_calls _ 0 3 [unlessE KB 8, unlessE (!cnS (ks.take i) k) 6, unlessE (!inF fs k) 13] _ (by simp) (by exact nums3s _ _ _ _ _)).mono ?_
  rintro e w' ⟨rfl, rfl⟩; go_wp2_with fail
  refine hK.out _ _ ?_ (fun hHeld => ?_)
  ·(exact HS2.out _ (by first | assumption | exact hHeld.1 | exact below_step hHeld.1 (by first | assumption | exact below_alloc _ _)))
  clear hK K; try simp only [Act.put, sEt, sE0, sE1]
  refine take_to 22 5 (bQ 23 8388607) (v := ?_) o121_2_22 rfl o121_2_ns (by kernel_rfl) (by kernel_rfl) (fun _ _ _ h => h) (by rfl) ?y222 (by assumption) ?_
  case y222 => intro w h; (try dsimp only at h); go_simp; try with_reducible rfl
  simp only [sE0, sE1]; refine wpAnyH_done (by kernel_rfl) ?_ _
  go_wp2_with fail
  go_ret
  exact ⟨ret_int Hr.out.symm, below_step hb02 hHeld.1⟩
set_option maxRecDepth 100000 in
set_option maxHeartbeats 4000000 in
theorem wrongNames_calls (lo lo' lo3 : Nat) (v u z : Value) (xs : List ScD) (fs : List FiD) (ks : List ByteArray) (w : World) (hC : Scs w lo v xs) (hlo : lo ≤ w.heap.size) (hF : Fis w lo3 u fs) (hK : Strs w lo' z ks) (hn : ks.length ≤ 1000000) :
  Calls Tryz.prog 79 #[v, u, z] w (IntBelow (wnE xs fs ks) w) := by
 obtain ⟨W, hW⟩ : ∃ W, W = ((w.alloc (.cells #[v] 28)).alloc (.cells #[u] 30)).alloc (.cells #[z] 39) := ⟨_, rfl⟩
 have hwW : Below w.heap.size w W := by rw [hW]; exact ((below_alloc w _).trans ((below_alloc _ _).mono (by simp))).trans ((below_alloc _ _).mono (by simp; omega))
 have y0 : W.heap[w.heap.size]? = some (.cells #[v] 28 (0, 0)) := by rw [hW]; exact heap_al (heap_al (heap_alloc_new w _) _) _
 have y1 : W.heap[w.heap.size + 1]? = some (.cells #[u] 30 (0, 0)) := by
  have := heap_alloc_new (w.alloc (.cells #[v] 28)) (.cells #[u] 30)
  rw [World.size_alloc] at this
  rw [hW]; exact heap_al this _
 have y2 : W.heap[w.heap.size + 2]? = some (.cells #[z] 39 (0, 0)) := by
  have := heap_alloc_new ((w.alloc (.cells #[v] 28)).alloc (.cells #[u] 30)) (.cells #[z] 39)
  rw [World.size_alloc, World.size_alloc] at this
  rw [hW]; exact this
 have x0 := cell_at y0 0 rfl
 have x1 := cell_at y1 0 rfl
 have x2 := cell_at y2 0 rfl
 have hCW := NRows.below hC hwW
 have hFW := Fis.below hF hwW
 have hKW := Strs.below hK hwW
 have hloW : lo ≤ W.heap.size := Nat.le_trans hlo hwW.size
 have hf : ∀ (V : World) (i : Nat), i < ks.length → Below W.heap.size W V → Calls Tryz.prog 121 (#[.int .i64 (i : Int)] ++ #[.pointer (some ⟨w.heap.size, 0, none⟩), .pointer (some ⟨w.heap.size + 2, 0, none⟩), .pointer (some ⟨w.heap.size + 1, 0, none⟩)]) V (IntBelow (wnF xs fs ks i) V) := by
  intro V i hi hb; obtain ⟨k, hk⟩ : ∃ k, ks[i]? = some k := ⟨_, List.getElem?_eq_getElem hi⟩
  have hKV := hKW.below hb; have z2 := below_cell hb x2; rcases strs_at hKV with ⟨_, h⟩ | ⟨g, off, cap, e, _⟩
  ·subst h; simp at hi
  ·rw [e] at hKV z2
   exact wrongNames1_calls w.heap.size (w.heap.size + 2) (w.heap.size + 1) g off cap i lo lo' lo3 v u xs fs ks k V hk hn (below_cell hb x0) (NRows.below hCW hb) (Nat.le_trans hloW hb.size) z2 hKV (below_cell hb x1) (hFW.below hb)
 have C := Lib.hid (each_calls 121 #[.pointer (some ⟨w.heap.size, 0, none⟩), .pointer (some ⟨w.heap.size + 2, 0, none⟩), .pointer (some ⟨w.heap.size + 1, 0, none⟩)] (enters_of Tryz.func121 (by kernel_rfl) rfl) (wnF xs fs ks) ks.length 20 W hn hf)
 have HR := Lib.hid (show wnE xs fs ks = eachE ks.length 20 (wnF xs fs ks) from rfl)
 generalize wnE xs fs ks = R at HR ⊢
 obtain ⟨a, c, rfl⟩ := NRows.shape hC
 obtain ⟨a', c', rfl⟩ := fis_shape hF
 obtain ⟨ka, kc, rfl⟩ := strs_shape hK
 clear hf hCW hFW hKW hC hF hK y0 y1 y2
 go_enter Tryz.func79, Tryz.ntmps79
 go_upto_region 1 with fail
 rw [← hW]
 clear hW
 go_wp2_with fail
 refine C.out.mono ?_
 rintro e w' ⟨rfl, hb⟩
 go_wp2_with fail
 go_ret
 exact ⟨ret_int HR.out.symm, below_step hwW hb⟩
end Go.Proofs.YtfcaokpadodijaaGreat
/- ScorersFault: the reference's way comes to the same. -/
namespace Go.Proofs.YtfcaokpadodijaaGreat
open Go.RowKit

def lastC (xs : List ScD) (k : Nat) : ByteArray := if k = 0 then ⟨#[]⟩ else (scAt xs (k - 1)).who
theorem sc_name {xs : List ScD} {k : Nat} {c : ScD} (h : xs[k]? = some c) (hn : keyB c.who = false) : scF xs k = 5 := by
 unfold scF
 rw [scAt_some h, hn]
 simp [unlessE, firstE]
theorem sc_ord {xs : List ScD} {k : Nat} (h : keyB (scAt xs k).who = true) : ltS (lastC xs k) (scAt xs k).who = (decide (k = 0) || ltS (scAt xs (k - 1)).who (scAt xs k).who) := by
 unfold lastC
 by_cases h0 : k = 0
 ·subst h0; simp [lt_empty h]
 ·simp [h0]
theorem sc_order {xs : List ScD} {k : Nat} {c : ScD} (h : xs[k]? = some c) (hn : keyB c.who = true) (ho : ltS (lastC xs k) c.who = false) : scF xs k = 7 := by
 have h2 := sc_ord (xs := xs) (k := k) (by rw [scAt_some h]; exact hn)
 rw [scAt_some h, ho] at h2
 unfold scF
 rw [scAt_some h, ← h2, hn]
 simp [unlessE, firstE]
theorem sc_rest {xs : List ScD} {k : Nat} {c : ScD} (h : xs[k]? = some c) (hn : keyB c.who = true) (ho : ltS (lastC xs k) c.who = true) : scF xs k = firstE [lfE true c.pos, wrongF c.num c.den 10000] := by
 have h2 := sc_ord (xs := xs) (k := k) (by rw [scAt_some h]; exact hn)
 rw [scAt_some h, ho] at h2
 unfold scF
 rw [scAt_some h, ← h2, hn, poE_eq]
 simp [unlessE, firstE]
set_option maxRecDepth 100000 in
set_option maxHeartbeats 8000000 in
theorem scorersFault_calls (lo : Nat) (v : Value) (xs : List ScD) (w : World) (hR : Scs w lo v xs) (hs : ∀ c ∈ xs, SmallSc c) (hn : xs.length ≤ 1000000) :
  Calls Tryz.prog 14 #[v] w (IntBelow (chkSc xs) w) := by
 have hat := scs_at hR
 obtain ⟨ra, rc, hv⟩ := NRows.shape hR
 have Hs := Lib.hid hs
 have Hat := Lib.hid hat
 rw [hv] at Hat ⊢
 clear hs hR hat hv
 by_cases hm : xs.length ≤ 20
 ·have Hm := Lib.hid (show (xs.length : Int) ≤ 20 by omega)
  go_enter Tryz.func14, Tryz.ntmps14; go_wp2_with fail
  go_loopw [3, 13] (fun last i wr => ∃ k : Nat, k ≤ xs.length ∧ i = .int .i64 k ∧ last = .string (lastC xs k) ∧ Hid (∀ i, i < k → scF xs i = 0) ∧ Below w.heap.size w wr) (fun _ i _ => xs.length - (intOf i).toNat)
  case atStart => exact ⟨0, Nat.zero_le _, rfl, rfl, Lib.hid (fun i hi => by omega), Below.refl _ _⟩
  case round =>
   obtain ⟨k, hk, rfl, rfl, H0, hb⟩ := hrel; by_cases hlt : k < xs.length
   ·obtain ⟨c, hc⟩ : ∃ c, xs[k]? = some c := ⟨xs[k], List.getElem?_eq_getElem hlt⟩
    have Hlast := Lib.hid (show lastC xs (k + 1) = c.who by unfold lastC; rw [if_neg (by omega), Nat.add_sub_cancel, scAt_some hc])
    obtain ⟨s1, s2, s3, s4, s5⟩ := Hs.out c (List.mem_of_getElem? hc); have S4 := Lib.hid s4; have S5 := Lib.hid s5; have Hnm := Lib.hid (fun h => sc_name hc h)
    have Hor := Lib.hid (fun h1 h2 => sc_order hc h1 h2)
    have Hre := Lib.hid (fun h1 h2 => sc_rest hc h1 h2)
    have Hhit := Lib.hid (fun (h : scF xs k ≠ 0) => (show chkSc xs = scF xs k from eachE_hit Hm.out hlt H0.out h))
    have Hnext := Lib.hid (fun (h : scF xs k = 0) i (hi : i < k + 1) => (show scF xs i = 0 by
     rcases Nat.lt_succ_iff_lt_or_eq.1 hi with h' | rfl
     ·exact H0.out i h'
     ·exact h))
    rcases Hat.out with ⟨_, h⟩ | ⟨g, off, cap, e, _, hg, _, hcell⟩
    ·rw [h] at hlt; simp at hlt
    simp only [Value.slice.injEq] at e
    obtain ⟨rfl, -, rfl⟩ := e; obtain ⟨pv, q0, q1, q2, q3, q4, hpv⟩ := hcell k c hc; obtain ⟨pa, pc, rfl⟩ := strs_shape hpv; have p0 := below_cell hb q0; have p1 := below_cell hb q1; have p2 := below_cell hb q2; have p3 := below_cell hb q3; have p4 := below_cell hb q4; have HL := Lib.hid (fun w' (hb' : Below w.heap.size w w') => listFault_calls true lo _ c.pos w' (hpv.below hb') s3 (by omega))
    clear hc s2 s3 s4 s5 hcell q0 q1 q2 q3 q4 hpv; go_upto_region 7 with fail
    obtain ⟨wA, hwA⟩ : ∃ wA, wA = wr.alloc (.cells #[.string c.who, .slice pa c.pos.length pc, .int .i64 c.num, .int .i64 c.den, .bool c.played] 77) := ⟨_, rfl⟩
    obtain ⟨X, hX⟩ : ∃ X, X = wr.heap.size := ⟨_, rfl⟩
    have hbA : Below w.heap.size w wA := by rw [hwA]; exact below_step hb (below_alloc wr _)
    have hx : wA.heap[X]? = some (.cells #[.string c.who, .slice pa c.pos.length pc, .int .i64 c.num, .int .i64 c.den, .bool c.played] 77 (0, 0)) := by rw [hwA, hX]; exact heap_alloc_new wr _
    rw [← hwA, ← hX]; have x0 := cell_at hx 0 rfl; have x1 := cell_at hx 1 rfl; have x2 := cell_at hx 2 rfl; have x3 := cell_at hx 3 rfl; have Hx := Lib.hid hx; have HbA := Lib.hid hbA; clear hwA hX hbA hx hb p0 p1 p2 p3 p4; cases hnm : keyB c.who
    ·have HN := Lib.hid (Hnm.out hnm)
     have HK := Lib.hid hnm; clear hnm; go_wp2_with fail
     refine (keyR_calls _ _ (by omega)).mono ?_
     rintro e w' ⟨rfl, rfl⟩; rw [HK.out]; go_wp2_with fail
     go_ret
     exact ⟨ret_int (by rw [Hhit.out (by rw [HN.out]; omega), HN.out]), HbA.out⟩
    ·have HK := Lib.hid hnm
     cases ho : ltS (lastC xs k) c.who
     ·have HO := Lib.hid (Hor.out hnm ho)
      have ho' : (Op.bytesLess c.who.toList (lastC xs k).toList || c.who.toList == (lastC xs k).toList) = true := by rw [leS_eq, ho]; rfl
      clear hnm ho; go_wp2_with fail
      refine (keyR_calls _ _ (by omega)).mono ?_
      rintro e w' ⟨rfl, rfl⟩; rw [HK.out]; go_wp2_with fail
      go_ret
      exact ⟨ret_int (by rw [Hhit.out (by rw [HO.out]; omega), HO.out]), HbA.out⟩
     ·have HRE := Lib.hid (Hre.out hnm ho)
      have ho' : (Op.bytesLess c.who.toList (lastC xs k).toList || c.who.toList == (lastC xs k).toList) = false := by rw [leS_eq, ho]; rfl
      clear hnm ho; go_wp2_with fail
      refine (keyR_calls _ _ (by omega)).mono ?_
      rintro e w' ⟨rfl, rfl⟩; rw [HK.out]; go_wp2_with fail
      refine (HL.out wA HbA.out).mono ?_; rintro e w' ⟨rfl, rfl⟩; by_cases hp : lfE true c.pos = 0
      ·have e1 : (lfE true c.pos != 0) = false := by simp [hp]
       have HRG := Lib.hid (show scF xs k = wrongF c.num c.den 10000 by rw [HRE.out, hp]; simp [firstE]; intro h; exact h.symm)
       have HC := Lib.hid (pointsFault_calls c.num c.den wA S4.out S5.out); clear hp; unfold frV at HC
       go_wp2_with fail
       refine HC.out.mono ?_; rintro e w' ⟨rfl, hb'⟩; have hx' := cells_later Hx.out hb'
       have z0 := cell_at hx' 0 rfl; have hb2 := below_step HbA.out hb'; rw [← HRG.out]; clear hx' hb'; by_cases hz : scF xs k = 0
       ·have e2 : (scF xs k != 0) = false := by simp [hz]
        have HN := Lib.hid (Hnext.out hz); clear hz; go_wp2_with fail
        go_roundw
        case rel => exact ⟨k + 1, by omega, by go_num, by rw [Hlast.out], HN, hb2⟩
        case measure => simp [intOf]; omega
       ·have e2 : (scF xs k != 0) = true := by simp [hz]
        have HN := Lib.hid (Hhit.out hz); clear hz; go_wp2_with fail
        go_ret
        exact ⟨ret_int HN.out.symm, hb2⟩
      ·have e1 : (lfE true c.pos != 0) = true := by simp [hp]
       have HP := Lib.hid (show scF xs k = lfE true c.pos by rw [HRE.out]; simp [firstE, hp])
       have HZ := Lib.hid hp; clear hp; go_wp2_with fail
       go_ret
       exact ⟨ret_int (by rw [Hhit.out (by rw [HP.out]; exact HZ.out), HP.out]), HbA.out⟩
   ·obtain rfl : k = xs.length := by omega
    have HN := Lib.hid (show chkSc xs = 0 from eachE_none Hm.out H0.out)
    go_wp2_with fail
    go_ret
    exact ⟨ret_int HN.out.symm, hb⟩
 ·have HN := Lib.hid (show chkSc xs = 2 by unfold chkSc eachE; rw [if_pos (by omega)])
  go_enter Tryz.func14, Tryz.ntmps14; go_wp2_with fail
  go_ret
  exact ⟨ret_int HN.out.symm, Below.refl _ _⟩
end Go.Proofs.YtfcaokpadodijaaGreat
/- What is wrong with slots, and then with scorers. -/
namespace Go.Proofs.YtfcaokpadodijaaGreat
open Go.RowKit

def sdE (ss : List SlD) (cs : List ScD) : Int := firstE [chkSl ss, chkSc cs]
set_option maxHeartbeats 1000000 in
theorem wrongSides_calls (lo lo' : Nat) (v u : Value) (ss : List SlD) (cs : List ScD) (w : World) (hS : Sls w lo v ss) (hs : ∀ c ∈ ss, SmallSl c) (hsn : ss.length ≤ 1000000) (hC : Scs w lo' u cs) (hc : ∀ c ∈ cs, SmallSc c) (hcn : cs.length ≤ 1000000) :
  Calls Tryz.prog 75 #[v, u] w (IntBelow (sdE ss cs) w) := by
 have C1 := Lib.hid (checkSlots_calls lo v ss w hS hs hsn)
 have C2 := fun w' (hb : Below w.heap.size w w') => Lib.hid (checkScorers_calls lo' u cs w' (NRows.below hC hb) hc hcn)
 obtain ⟨a, c, rfl⟩ := NRows.shape hS
 obtain ⟨a', c', rfl⟩ := NRows.shape hC
 clear hS hs hC hc
 go_enter Tryz.func75, Tryz.ntmps75
 go_wp2_with fail
 refine C1.out.mono ?_
 rintro e w1 ⟨rfl, hb1⟩
 go_wp2_with fail
 refine (C2 w1 hb1).out.mono ?_
 rintro e w2 ⟨rfl, hb2⟩
 go_wp2_with fail
 refine (orE_calls _ 0 2 [chkSl ss, chkSc cs] _ (by simp) (by exact nums2 _ _ _ _)).mono ?_
 rintro e w3 ⟨rfl, rfl⟩
 go_wp2_with fail
 go_ret
 exact ⟨rfl, below_step (below_step hb1 hb2) (below_alloc _ _)⟩
end Go.Proofs.YtfcaokpadodijaaGreat
/- CheckFills. -/
namespace Go.Proofs.YtfcaokpadodijaaGreat
open Go.RowKit

def fiAt (fs : List FiD) (i : Nat) : FiD := fs[i]?.getD ⟨⟨#[]⟩, ⟨#[]⟩⟩
theorem fiAt_some {fs : List FiD} {i : Nat} {f : FiD} (h : fs[i]? = some f) : fiAt fs i = f := by simp [fiAt, h]
end Go.Proofs.YtfcaokpadodijaaGreat
/- What scorers are worth, and those in slots together. -/
namespace Go.Proofs.YtfcaokpadodijaaGreat
open Go.RowKit

/-- A scorer's points in hundredths. -/
def ptH (c : ScD) : Int := c.num * ((100 : Int).tdiv c.den)
/-- .. and 0 for nobody. -/
def wthC (c : ScD) : Int := if c.who.size = 0 then 0 else ptH c
def FitW (c : ScD) : Prop := c.who.size ≠ 0 → 0 < c.den ∧ c.den ≤ 100 ∧ -1000000 ≤ ptH c ∧ ptH c ≤ 1000000
theorem wth_small {c : ScD} (h : FitW c) : -1000000 ≤ wthC c ∧ wthC c ≤ 1000000 := by
 unfold wthC
 split
 ·omega
 ·rename_i hz
  have := h hz
  omega
theorem fitH_of {n d : Int} (h : wrongF n d 10000 = 0) : 0 < d ∧ d ≤ 100 ∧ -1000000 ≤ n * ((100 : Int).tdiv d) ∧ n * ((100 : Int).tdiv d) ≤ 1000000 := by
 unfold wrongF at h
 split at h
 ·simp at h
 ·rename_i h1
  split at h
  ·simp at h
  ·rename_i h2
   have hd : 0 < d := by
    rcases Int.lt_or_le 0 d with h | h
    ·exact h
    ·exact absurd (Or.inl h) h1
   have hm : (100 : Int) % d = 0 := by
    by_cases hm : (100 : Int) % d = 0
    ·exact hm
    ·exact absurd (Or.inl hm) h2
   have hr : -10000 * d ≤ n ∧ n ≤ 10000 * d := by
    by_cases hr : -10000 * d ≤ n ∧ n ≤ 10000 * d
    ·exact hr
    ·exact absurd (Or.inr hr) h2
   have hd100 := den_100 hm; refine ⟨hd, hd100, ?_⟩
   have hq : d * ((100 : Int).tdiv d) = 100 := by
    have h1 := Int.mul_tdiv_add_tmod 100 d; have h2 : (100 : Int).tmod d = 0 := by rw [Int.tmod_eq_emod_of_nonneg (by omega)]; exact hm
    omega
   have hq0 : 0 ≤ (100 : Int).tdiv d := Int.tdiv_nonneg (by omega) (by omega)
   generalize (100 : Int).tdiv d = q at hq hq0 ⊢
   have e1 : n * q ≤ 10000 * d * q := Int.mul_le_mul_of_nonneg_right hr.2 hq0
   have e2 : -10000 * d * q ≤ n * q := Int.mul_le_mul_of_nonneg_right hr.1 hq0
   have e3 : 10000 * d * q = 1000000 := by rw [Int.mul_assoc, hq]; rfl
   have e4 : -10000 * d * q = -1000000 := by rw [Int.mul_assoc, hq]; rfl
   omega
set_option maxHeartbeats 1000000 in
theorem wrth_calls (c : ScD) (xa : Option Addr) (n xc : Nat) (w : World) (hf : FitW c) :
  Calls Tryz.prog 52 #[.agg #[.string c.who, .slice xa n xc, .int .i64 c.num, .int .i64 c.den, .bool c.played]] w (IntBelow (wthC c) w) := by
 by_cases hz : c.who.size = 0
 ·have HW := Lib.hid (show wthC c = 0 by unfold wthC; rw [if_pos hz])
  have e2 : c.who.toList.isEmpty = true := by rw [empty_of]; exact decide_eq_true hz
  clear hz hf; go_enter Tryz.func52, Tryz.ntmps52; go_wp2_with fail
  go_ret
  exact ⟨ret_int HW.out.symm, below_alloc w _⟩
 ·have HW := Lib.hid (show wthC c = ptH c by unfold wthC; rw [if_neg hz])
  have e2 : c.who.toList.isEmpty = false := by rw [empty_of]; exact decide_eq_false hz
  obtain ⟨h1, h2, h3, h4⟩ := hf hz; have HC := Lib.hid (fun w' => hundredths_calls c.num c.den w' h1 (show Int64 (ptH c) by unfold Int64; omega) h2)
  clear hz hf h1 h2 h3 h4; go_enter Tryz.func52, Tryz.ntmps52; go_wp2_with fail
  refine (HC.out _).mono ?_; rintro e w1 ⟨rfl, hb⟩; go_wp2_with fail
  go_ret
  exact ⟨ret_int (by rw [HW.out]; rfl), below_step (below_alloc w _) hb⟩
def sumTo (f : Nat → Int) : Nat → Int
 | 0 => 0
 | k + 1 => sumTo f k + f k
theorem sumTo_small {f : Nat → Int} (h : ∀ i, -1000000 ≤ f i ∧ f i ≤ 1000000) : ∀ k : Nat, -(1000000 * (k : Int)) ≤ sumTo f k ∧ sumTo f k ≤ 1000000 * (k : Int)
 | 0 => by simp [sumTo]
 | k + 1 => by
  have h1 := sumTo_small h k; have h2 := h k; unfold sumTo; rw [Int.natCast_add]; omega
def wthAt (cs : List ScD) (fs : List FiD) (i : Nat) : Int := wthC (fndC cs (fiAt fs i).who)
def sumFi (cs : List ScD) (fs : List FiD) : Int := sumTo (wthAt cs fs) fs.length
theorem fit_fnd {cs : List ScD} (h : ∀ c ∈ cs, FitW c) (k : ByteArray) : FitW (fndC cs k) := by
 unfold fndC
 split
 ·rename_i hk
  have hl := known_lt hk; rw [List.length_map] at hl
  rw [List.getElem?_eq_getElem hl]; exact h _ (List.getElem_mem hl)
 ·intro hz
  exact absurd rfl hz
set_option maxRecDepth 100000 in
set_option maxHeartbeats 4000000 in
theorem sum_calls (lo lo' : Nat) (v u : Value) (cs : List ScD) (fs : List FiD) (w : World) (hC : Scs w lo v cs) (hlo : lo ≤ w.heap.size) (hF : Fis w lo' u fs) (hn : fs.length ≤ 1000000) (hfit : ∀ c ∈ cs, FitW c) :
  Calls Tryz.prog 51 #[v, u] w (IntBelow (sumFi cs fs) w) := by
 have HC := Lib.hid hC
 have HF := Lib.hid hF
 have Hfit := Lib.hid (fit_fnd hfit)
 have Hsm := Lib.hid (sumTo_small (f := wthAt cs fs) (fun i => wth_small (Hfit.out _)))
 obtain ⟨ca, cc, rfl⟩ := NRows.shape hC
 obtain ⟨fa, fc, rfl⟩ := fis_shape hF
 clear hC hF hfit
 go_enter Tryz.func51, Tryz.ntmps51
 go_wp2_with fail
 go_loopw [5, 12] (fun s i wr => ∃ k : Nat, k ≤ fs.length ∧ i = .int .i64 k ∧ s = .int .i64 (sumTo (wthAt cs fs) k) ∧ Below w.heap.size w wr) (fun _ i _ => fs.length - (intOf i).toNat)
 case atStart => exact ⟨0, Nat.zero_le _, rfl, rfl, Below.refl _ _⟩
 case round =>
  obtain ⟨k, hk, rfl, rfl, hb⟩ := hrel; by_cases hlt : k < fs.length
  ·obtain ⟨f, hf⟩ : ∃ f, fs[k]? = some f := ⟨_, List.getElem?_eq_getElem hlt⟩
   rcases fis_at HF.out with ⟨_, h⟩ | ⟨g, off, cap, e, _, hg, _, hcell⟩
   ·rw [h] at hlt; simp at hlt
   simp only [Value.slice.injEq] at e
   obtain ⟨rfl, -, rfl⟩ := e; obtain ⟨q0, q1⟩ := hcell k f hf; have q0 := below_cell hb q0; have q1 := below_cell hb q1; have hlt' : (k : Int) < (fs.length : Int) := by omega
   have CF := Lib.hid (fun w' (hb' : Below w.heap.size w w') => find_calls lo _ cs f.who w' (NRows.below HC.out hb') (Nat.le_trans hlo hb'.size))
   have HW := Lib.hid (show wthAt cs fs k = wthC (fndC cs f.who) by unfold wthAt; rw [fiAt_some hf])
   have hfw := Hfit.out f.who; have HN := Lib.hid (show sumTo (wthAt cs fs) (k + 1) = sumTo (wthAt cs fs) k + wthAt cs fs k from rfl)
   have hs1 := Hsm.out k; have hs2 := wth_small hfw; generalize knownB (cs.map ScD.who) f.who = KB at CF
   generalize fndC cs f.who = Fc at CF HW hfw hs2
   generalize sumTo (wthAt cs fs) k = S at HN hs1 ⊢
   clear hcell hf; go_wp2_with fail
   refine (CF.out _ (below_step hb (below_alloc wr _))).mono ?_; rintro e w1 ⟨x, rfl, hx, hb1⟩; obtain ⟨xa, xc, rfl⟩ := strs_shape hx; clear hx CF; go_wp2_with fail
   refine (wrth_calls Fc xa _ xc _ hfw).mono ?_; rintro e w2 ⟨rfl, hb2⟩; go_wp2_with fail
   go_roundw
   case rel => exact ⟨k + 1, by omega, by go_num, by rw [HN.out, HW.out], below_step (below_step (below_step (below_step hb (below_alloc wr _)) hb1) (below_alloc w1 _)) hb2⟩
   case measure => simp [intOf]; omega
  ·obtain rfl : k = fs.length := by omega
   go_wp2_with fail
   go_ret
   exact ⟨rfl, hb⟩
end Go.Proofs.YtfcaokpadodijaaGreat
/- Who comes first among the winners. -/
namespace Go.Proofs.YtfcaokpadodijaaGreat
open Go.RowKit

set_option maxRecDepth 100000 in
set_option maxHeartbeats 1000000 in
theorem orI_calls (g off cap : Nat) (xs : List Int) (w : World) (hn : xs.length ≤ 1000000) (hc : NumsAt w g off xs) :
  Calls Tryz.prog 129 #[.slice (some ⟨g, off, none⟩) xs.length cap] w fun e w' => e = .returned (.int .i64 (firstE xs)) ∧ w = w' := by
 have Hc := Lib.hid hc
 clear hc
 go_enter Tryz.func129, Tryz.ntmps129
 go_wp2_with fail
 go_loop [8] (fun i => ∃ k : Nat, k ≤ xs.length ∧ i = .int .i64 k ∧ Hid (∀ (i : Nat) (y : Int), i < k → xs[i]? = some y → y = 0)) (fun i => xs.length - (intOf i).toNat)
 case atStart => exact ⟨0, Nat.zero_le _, rfl, Lib.hid fun i y hi => by omega⟩
 case round =>
  obtain ⟨k, hk, rfl, H0⟩ := hrel; by_cases hlt : k < xs.length
  ·obtain ⟨x, hx⟩ : ∃ x, xs[k]? = some x := ⟨xs[k], List.getElem?_eq_getElem hlt⟩
   have hcell := Hc.out k x hx; have Hx := Lib.hid hx; clear hx; by_cases hz : x = 0
   ·subst hz
    go_wp2_with fail
    go_round
    case rel => exact ⟨k + 1, by omega, by go_num, Lib.hid fun i y hi hy => by
     rcases Nat.lt_succ_iff_lt_or_eq.1 hi with h | rfl
     ·exact H0.out i y h hy
     ·rw [Hx.out] at hy; exact (Option.some.inj hy).symm⟩
    case measure => simp [intOf]; omega
   ·have e1 : (x != 0) = true := by simp [hz]
    have Hz := Lib.hid hz; clear hz; go_wp2_with fail
    go_ret
    exact ⟨ret_int (firstE_hit Hx.out H0.out Hz.out).symm, rfl⟩
  ·obtain rfl : k = xs.length := by omega
   go_wp2_with fail
   go_ret
   exact ⟨ret_int (firstE_none fun i y hy => H0.out i y (List.getElem?_eq_some_iff.1 hy).1 hy).symm, rfl⟩


/-- Which of two comes first: who is worth more, else the lesser number. -/
def wcmp (cs : List ScD) (a b : Nat) : Int := firstE [Lib.compareInt (wthC (scAt cs b)) (wthC (scAt cs a)), Lib.compareInt (a : Int) (b : Int)]
def o128_1 : Array Go.Oper := #[
 ⟨some 6, .load 28 (.tmp 2), 28, "best.go:139", #[], none⟩,
 ⟨some 7, .move (.tmp 1), 3, "best.go:139", #[], none⟩,
 ⟨some 8, .indexAddr 28 (.tmp 6) (.tmp 7), 0, "best.go:139", #[⟨0, .data⟩, ⟨1, .data⟩], none⟩,
 ⟨some 9, .load 77 (.tmp 8), 77, "best.go:139", #[⟨2, .data⟩], none⟩,
 ⟨some 10, .call { callee := .value (.func 52), args := #[.tmp 9], argTypes := #[77] }, 3, "best.go:139", #[⟨3, .data⟩], none⟩,
 ⟨some 11, .load 28 (.tmp 2), 28, "best.go:139", #[], none⟩,
 ⟨some 12, .move (.tmp 0), 3, "best.go:139", #[], none⟩,
 ⟨some 13, .indexAddr 28 (.tmp 11) (.tmp 12), 0, "best.go:139", #[⟨5, .data⟩, ⟨6, .data⟩], none⟩,
 ⟨some 14, .load 77 (.tmp 13), 77, "best.go:139", #[⟨7, .data⟩], none⟩,
 ⟨some 15, .call { callee := .value (.func 52), args := #[.tmp 14], argTypes := #[77] }, 3, "best.go:139", #[⟨8, .data⟩, ⟨4, .chain⟩], none⟩,
 ⟨some 16, .call { callee := .value (.func 124), args := #[.tmp 10, .tmp 15], argTypes := #[3, 3] }, 3, "best.go:139", #[⟨4, .data⟩, ⟨9, .data⟩, ⟨9, .chain⟩], none⟩,
 ⟨some 17, .move (.tmp 0), 3, "best.go:139", #[], none⟩,
 ⟨some 18, .move (.tmp 1), 3, "best.go:139", #[], none⟩,
 ⟨some 19, .call { callee := .value (.func 124), args := #[.tmp 17, .tmp 18], argTypes := #[3, 3] }, 3, "best.go:139", #[⟨11, .data⟩, ⟨12, .data⟩, ⟨10, .chain⟩], none⟩,
 ⟨some 20, .buildSlice 22 2 #[(0, .tmp 16), (1, .tmp 19)], 22, "best.go:139", #[⟨10, .data⟩, ⟨13, .data⟩], none⟩,
 ⟨some 21, .call { callee := .value (.func 129), args := #[.tmp 20], argTypes := #[22] }, 3, "best.go:139", #[⟨14, .data⟩, ⟨13, .chain⟩], none⟩,
 ⟨some 5, .assign (.tmp 21), 3, "best.go:139", #[⟨15, .data⟩, ⟨15, .chain⟩, ⟨0, .phase⟩, ⟨1, .phase⟩, ⟨2, .phase⟩, ⟨3, .phase⟩, ⟨4, .phase⟩, ⟨5, .phase⟩, ⟨6, .phase⟩, ⟨7, .phase⟩, ⟨8, .phase⟩, ⟨9, .phase⟩, ⟨10, .phase⟩, ⟨11, .phase⟩, ⟨12, .phase⟩, ⟨13, .phase⟩, ⟨14, .phase⟩, ⟨15, .phase⟩], none⟩]
theorem o128_1_0 : o128_1[0]? = some (⟨some 6, .load 28 (.tmp 2), 28, "best.go:139", #[], none⟩ : Go.Oper) := rfl
theorem o128_1_1 : o128_1[1]? = some (⟨some 7, .move (.tmp 1), 3, "best.go:139", #[], none⟩ : Go.Oper) := rfl
theorem o128_1_2 : o128_1[2]? = some (⟨some 8, .indexAddr 28 (.tmp 6) (.tmp 7), 0, "best.go:139", #[⟨0, .data⟩, ⟨1, .data⟩], none⟩ : Go.Oper) := rfl
theorem o128_1_3 : o128_1[3]? = some (⟨some 9, .load 77 (.tmp 8), 77, "best.go:139", #[⟨2, .data⟩], none⟩ : Go.Oper) := rfl
theorem o128_1_4 : o128_1[4]? = some (⟨some 10, .call { callee := .value (.func 52), args := #[.tmp 9], argTypes := #[77] }, 3, "best.go:139", #[⟨3, .data⟩], none⟩ : Go.Oper) := rfl
theorem o128_1_5 : o128_1[5]? = some (⟨some 11, .load 28 (.tmp 2), 28, "best.go:139", #[], none⟩ : Go.Oper) := rfl
theorem o128_1_6 : o128_1[6]? = some (⟨some 12, .move (.tmp 0), 3, "best.go:139", #[], none⟩ : Go.Oper) := rfl
theorem o128_1_7 : o128_1[7]? = some (⟨some 13, .indexAddr 28 (.tmp 11) (.tmp 12), 0, "best.go:139", #[⟨5, .data⟩, ⟨6, .data⟩], none⟩ : Go.Oper) := rfl
theorem o128_1_8 : o128_1[8]? = some (⟨some 14, .load 77 (.tmp 13), 77, "best.go:139", #[⟨7, .data⟩], none⟩ : Go.Oper) := rfl
theorem o128_1_9 : o128_1[9]? = some (⟨some 15, .call { callee := .value (.func 52), args := #[.tmp 14], argTypes := #[77] }, 3, "best.go:139", #[⟨8, .data⟩, ⟨4, .chain⟩], none⟩ : Go.Oper) := rfl
theorem o128_1_10 : o128_1[10]? = some (⟨some 16, .call { callee := .value (.func 124), args := #[.tmp 10, .tmp 15], argTypes := #[3, 3] }, 3, "best.go:139", #[⟨4, .data⟩, ⟨9, .data⟩, ⟨9, .chain⟩], none⟩ : Go.Oper) := rfl
theorem o128_1_11 : o128_1[11]? = some (⟨some 17, .move (.tmp 0), 3, "best.go:139", #[], none⟩ : Go.Oper) := rfl
theorem o128_1_12 : o128_1[12]? = some (⟨some 18, .move (.tmp 1), 3, "best.go:139", #[], none⟩ : Go.Oper) := rfl
theorem o128_1_13 : o128_1[13]? = some (⟨some 19, .call { callee := .value (.func 124), args := #[.tmp 17, .tmp 18], argTypes := #[3, 3] }, 3, "best.go:139", #[⟨11, .data⟩, ⟨12, .data⟩, ⟨10, .chain⟩], none⟩ : Go.Oper) := rfl
theorem o128_1_14 : o128_1[14]? = some (⟨some 20, .buildSlice 22 2 #[(0, .tmp 16), (1, .tmp 19)], 22, "best.go:139", #[⟨10, .data⟩, ⟨13, .data⟩], none⟩ : Go.Oper) := rfl
theorem o128_1_15 : o128_1[15]? = some (⟨some 21, .call { callee := .value (.func 129), args := #[.tmp 20], argTypes := #[22] }, 3, "best.go:139", #[⟨14, .data⟩, ⟨13, .chain⟩], none⟩ : Go.Oper) := rfl
theorem o128_1_16 : o128_1[16]? = some (⟨some 5, .assign (.tmp 21), 3, "best.go:139", #[⟨15, .data⟩, ⟨15, .chain⟩, ⟨0, .phase⟩, ⟨1, .phase⟩, ⟨2, .phase⟩, ⟨3, .phase⟩, ⟨4, .phase⟩, ⟨5, .phase⟩, ⟨6, .phase⟩, ⟨7, .phase⟩, ⟨8, .phase⟩, ⟨9, .phase⟩, ⟨10, .phase⟩, ⟨11, .phase⟩, ⟨12, .phase⟩, ⟨13, .phase⟩, ⟨14, .phase⟩, ⟨15, .phase⟩], none⟩ : Go.Oper) := rfl
set_option maxRecDepth 100000 in
set_option maxHeartbeats 8000000 in
theorem wcmp_calls (lo : Nat) (v : Value) (cs : List ScD) (Xl a b : Nat) (w : World) (hC : Scs w lo v cs) (hX : w.cell? ⟨Xl, 0, none⟩ = some v) (ha : a < cs.length) (hb : b < cs.length) (hn : cs.length ≤ 1000) (hF : ∀ c ∈ cs, FitW c) :
  Calls Tryz.prog 128 #[.int .i64 (a : Int), .int .i64 (b : Int), .pointer (some ⟨Xl, 0, none⟩)] w (IntBelow (wcmp cs a b) w) := by
 obtain ⟨c, hc⟩ : ∃ c, cs[a]? = some c := ⟨_, List.getElem?_eq_getElem ha⟩
 obtain ⟨d, hd⟩ : ∃ c, cs[b]? = some c := ⟨_, List.getElem?_eq_getElem hb⟩
 have Hw := Lib.hid (show wcmp cs a b = firstE [Lib.compareInt (wthC d) (wthC c), Lib.compareInt (a : Int) (b : Int)] by unfold wcmp; rw [scAt_some hc, scAt_some hd])
 have hfc := Lib.hid (hF c (List.mem_of_getElem? hc))
 have hfd := Lib.hid (hF d (List.mem_of_getElem? hd))
 rcases scs_at hC with ⟨_, h⟩ | ⟨g, off, cap, rfl, _, hg, _, hcell⟩
 ·rw [h] at ha; simp at ha
 obtain ⟨x, r0, r1, r2, r3, r4, hx⟩ := hcell a c hc
 obtain ⟨y, s0, s1, s2, s3, s4, hy⟩ := hcell b d hd
 obtain ⟨xa, xc, rfl⟩ := strs_shape hx
 obtain ⟨ya, yc, rfl⟩ := strs_shape hy
 have ha' : (a : Int) < (cs.length : Int) := by omega
 have hb' : (b : Int) < (cs.length : Int) := by omega
 clear hC hF hcell hc hd hx hy
 unfold IntBelow
 obtain ⟨r, hr⟩ : ∃ r, wcmp cs a b = r := ⟨_, rfl⟩
 rw [hr]
 have Hr := Lib.hid (hr.symm.trans Hw.out)
 clear hr Hw
 generalize cs.length = n at hX ha hb hn ha' hb'
 have HS := Lib.hid (show ∀ w', Below w.heap.size w w' → w'.cell? ⟨Xl, 0, none⟩ = some (.slice (some ⟨g, off, none⟩) n cap) ∧ w'.cell? ⟨g, off + a * 5, none⟩ = some (.string c.who) ∧ w'.cell? ⟨g, off + a * 5 + 1, none⟩ = some (.slice xa c.pos.length xc) ∧ w'.cell? ⟨g, off + a * 5 + 2, none⟩ = some (.int .i64 c.num) ∧ w'.cell? ⟨g, off + a * 5 + 3, none⟩ = some (.int .i64 c.den) ∧ w'.cell? ⟨g, off + a * 5 + 4, none⟩ = some (.bool c.played) ∧ w'.cell? ⟨g, off + b * 5, none⟩ = some (.string d.who) ∧ w'.cell? ⟨g, off + b * 5 + 1, none⟩ = some (.slice ya d.pos.length yc) ∧ w'.cell? ⟨g, off + b * 5 + 2, none⟩ = some (.int .i64 d.num) ∧ w'.cell? ⟨g, off + b * 5 + 3, none⟩ = some (.int .i64 d.den) ∧ w'.cell? ⟨g, off + b * 5 + 4, none⟩ = some (.bool d.played) from fun w' h => ⟨below_cell h hX, below_cell h r0, below_cell h r1, below_cell h r2, below_cell h r3, below_cell h r4, below_cell h s0, below_cell h s1, below_cell h s2, below_cell h s3, below_cell h s4⟩)
 have hbc := (Below.refl w.heap.size w).drew
 have hS0 := HS.out _ hbc
 clear hX r0 r1 r2 r3 r4 s0 s1 s2 s3 s4
 go_enter Tryz.func128, Tryz.ntmps128
 go_upto_region 1 with fail
 show Code.wp _ (Code.region 1 o128_1 true) _ _ _
 refine regionC_start 17 (fun w' => w'.cell? ⟨Xl, 0, none⟩ = some (.slice (some ⟨g, off, none⟩) n cap) ∧ w'.cell? ⟨g, off + a * 5, none⟩ = some (.string c.who) ∧ w'.cell? ⟨g, off + a * 5 + 1, none⟩ = some (.slice xa c.pos.length xc) ∧ w'.cell? ⟨g, off + a * 5 + 2, none⟩ = some (.int .i64 c.num) ∧ w'.cell? ⟨g, off + a * 5 + 3, none⟩ = some (.int .i64 c.den) ∧ w'.cell? ⟨g, off + a * 5 + 4, none⟩ = some (.bool c.played) ∧ w'.cell? ⟨g, off + b * 5, none⟩ = some (.string d.who) ∧ w'.cell? ⟨g, off + b * 5 + 1, none⟩ = some (.slice ya d.pos.length yc) ∧ w'.cell? ⟨g, off + b * 5 + 2, none⟩ = some (.int .i64 d.num) ∧ w'.cell? ⟨g, off + b * 5 + 3, none⟩ = some (.int .i64 d.den) ∧ w'.cell? ⟨g, off + b * 5 + 4, none⟩ = some (.bool d.played)) (fun j => [0, 2, 3, 4, 5, 7, 8].contains j) (by kernel_rfl) rfl ?_
 generalize w.drew = W0 at hbc hS0 ⊢
 ·skip
  refine takeC 1 7 (v := ?_) o128_1_1 rfl (by kernel_rfl) (by kernel_rfl) (by kernel_rfl) (by rfl) (fun _ _ _ h => h) (by rfl) ?y1_1 ?_
  case y1_1 => intro w; go_simp; try with_reducible rfl
  simp only [sE0, sE1]; refine takeC 6 12 (v := ?_) o128_1_6 rfl (by kernel_rfl) (by kernel_rfl) (by kernel_rfl) (by rfl) (fun _ _ _ h => h) (by rfl) ?y6_2 ?_
  case y6_2 => intro w; go_simp; try with_reducible rfl
  simp only [sE0, sE1]; refine takeC 11 17 (v := ?_) o128_1_11 rfl (by kernel_rfl) (by kernel_rfl) (by kernel_rfl) (by rfl) (fun _ _ _ h => h) (by rfl) ?y11_3 ?_
  case y11_3 => intro w; go_simp; try with_reducible rfl
  simp only [sE0, sE1]; refine takeC 12 18 (v := ?_) o128_1_12 rfl (by kernel_rfl) (by kernel_rfl) (by kernel_rfl) (by rfl) (fun _ _ _ h => h) (by rfl) ?y12_4 ?_
  case y12_4 => intro w; go_simp; try with_reducible rfl
  simp only [sE0, sE1]; refine loadC 0 6 (v := ?_) o128_1_0 rfl (by kernel_rfl) (by kernel_rfl) (by kernel_rfl) (by kernel_rfl) (fun _ _ _ h => h) (by rfl) ?y0_5 (by exact hS0) ?_
  case y0_5 => intro w h; (try dsimp only at h); go_simp; try with_reducible rfl
  simp only [sE0, sE1]; refine loadC 2 8 (v := ?_) o128_1_2 rfl (by kernel_rfl) (by kernel_rfl) (by kernel_rfl) (by kernel_rfl) (fun _ _ _ h => h) (by rfl) ?y2_6 (by exact hS0) ?_
  case y2_6 => intro w h; (try dsimp only at h); go_simp; try with_reducible rfl
  simp only [sE0, sE1]; refine loadC 3 9 (v := ?_) o128_1_3 rfl (by kernel_rfl) (by kernel_rfl) (by kernel_rfl) (by kernel_rfl) (fun _ _ _ h => h) (by rfl) ?y3_7 (by exact hS0) ?_
  case y3_7 => intro w h; (try dsimp only at h); go_simp; try with_reducible rfl
  simp only [sE0, sE1]; refine loadC 5 11 (v := ?_) o128_1_5 rfl (by kernel_rfl) (by kernel_rfl) (by kernel_rfl) (by kernel_rfl) (fun _ _ _ h => h) (by rfl) ?y5_8 (by exact hS0) ?_
  case y5_8 => intro w h; (try dsimp only at h); go_simp; try with_reducible rfl
  simp only [sE0, sE1]; refine loadC 7 13 (v := ?_) o128_1_7 rfl (by kernel_rfl) (by kernel_rfl) (by kernel_rfl) (by kernel_rfl) (fun _ _ _ h => h) (by rfl) ?y7_9 (by exact hS0) ?_
  case y7_9 => intro w h; (try dsimp only at h); go_simp; try with_reducible rfl
  simp only [sE0, sE1]; refine loadC 8 14 (v := ?_) o128_1_8 rfl (by kernel_rfl) (by kernel_rfl) (by kernel_rfl) (by kernel_rfl) (fun _ _ _ h => h) (by rfl) ?y8_10 (by exact hS0) ?_
  case y8_10 => intro w h; (try dsimp only at h); go_simp; try with_reducible rfl
  simp only [sE0, sE1]; refine readyC (rs := [4]) (by kernel_rfl) (by simp) (each_cons (runC o128_1_4 (by rfl) (fun K hK => ?_)) each_nil)
  go_simp; refine (wrth_calls d ya _ yc _ hfd.out).mono ?_; rintro e w' ⟨rfl, hb1⟩; replace hbc := below_step hbc hb1; have hS0 := HS.out _ hbc; clear hb1; go_wp2_with fail
  refine hK.out _ _ (fun _ => ?_) ?_
  ·(exact hS0)
  clear hK K; try simp only [Act.put, sEt, sE0, sE1]
  refine readyC (rs := [9]) (by kernel_rfl) (by simp) (each_cons (runC o128_1_9 (by rfl) (fun K hK => ?_)) each_nil)
  go_simp; refine (wrth_calls c xa _ xc _ hfc.out).mono ?_; rintro e w' ⟨rfl, hb1⟩; replace hbc := below_step hbc hb1; have hS0 := HS.out _ hbc; clear hb1; go_wp2_with fail
  refine hK.out _ _ (fun h => absurd h (by decide)) ?_
  clear hK K; try simp only [Act.put, sEt, sE0, sE1]
  refine readyC (rs := [10]) (by kernel_rfl) (by simp) (each_cons (runC o128_1_10 (by rfl) (fun K hK => ?_)) each_nil)
  go_simp; refine (Tryz.cmp_Compare_int _ _ _).mono ?_; rintro e w' ⟨rfl, rfl⟩; go_wp2_with fail
  refine hK.out _ _ (fun h => absurd h (by decide)) ?_
  clear hK K; try simp only [Act.put, sEt, sE0, sE1]
  refine readyC (rs := [13]) (by kernel_rfl) (by simp) (each_cons (runC o128_1_13 (by rfl) (fun K hK => ?_)) each_nil)
  go_simp; refine (Tryz.cmp_Compare_int _ _ _).mono ?_; rintro e w' ⟨rfl, rfl⟩; go_wp2_with fail
  refine hK.out _ _ (fun h => absurd h (by decide)) ?_
  clear hK K; try simp only [Act.put, sEt, sE0, sE1]
  refine readyC (rs := [14]) (by kernel_rfl) (by simp) (each_cons (runC o128_1_14 (by rfl) (fun K hK => ?_)) each_nil)
  go_simp; replace hbc := below_step hbc (below_alloc _ (.cells #[.int .i64 (Lib.compareInt (wthC d) (wthC c)), .int .i64 (Lib.compareInt (a : Int) (b : Int))] 3)); go_wp2_with fail
  refine hK.out _ _ (fun h => absurd h (by decide)) ?_
  clear hK K; try simp only [Act.put, sEt, sE0, sE1]
  refine readyC (rs := [15]) (by kernel_rfl) (by simp) (each_cons (runC o128_1_15 (by rfl) (fun K hK => ?_)) each_nil)
  go_simp; refine (orI_calls _ 0 2 [Lib.compareInt (wthC d) (wthC c), Lib.compareInt (a : Int) (b : Int)] _ (by simp) (by exact nums2 _ _ _ _)).mono ?_
  rintro e w' ⟨rfl, rfl⟩; go_wp2_with fail
  refine hK.out _ _ (fun h => absurd h (by decide)) ?_
  clear hK K; try simp only [Act.put, sEt, sE0, sE1]
  refine takeC 16 5 (v := ?_) o128_1_16 rfl (by kernel_rfl) (by kernel_rfl) (by kernel_rfl) (by rfl) (fun _ _ _ h => h) (by rfl) ?y16_11 ?_
  case y16_11 => intro w; go_simp; try with_reducible rfl
  simp only [sE0, sE1]; refine doneC (by kernel_rfl) ?_ _
  go_wp2_with fail
  go_ret
  exact ⟨ret_int Hr.out.symm, hbc⟩
end Go.Proofs.YtfcaokpadodijaaGreat
/- FillsFault: the same as CheckFills, of right slots and scorers. -/
namespace Go.Proofs.YtfcaokpadodijaaGreat
open Go.RowKit

/-- Where a scorer is, and who it is. -/
def AtV (cs : List ScD) (k : ByteArray) (v : Int) : Prop := (v = -1 ∧ knownB (cs.map ScD.who) k = false) ∨ ∃ q : Nat, v = (q : Int) ∧ cs[q]? = some (fndC cs k) ∧ knownB (cs.map ScD.who) k = true
theorem at_of {cs : List ScD} {k : ByteArray} {w w' : World} {e : Ending} (hs : SortedK (cs.map ScD.who)) (h : IdxFirstC (fun c => beqS c.who k) cs w e w') : ∃ v : Int, e = .returned (.int .i64 v) ∧ AtV cs k v := by
 rcases h.1 with ⟨rfl, h0⟩ | ⟨i, c, rfl, hc, hk, _⟩
 ·exact ⟨_, rfl, .inl ⟨rfl, (fnd_none hs h0).1⟩⟩
 ·obtain ⟨h1, _, h3⟩ := fnd_at hs hc (beqS_iff.1 hk)
  exact ⟨_, rfl, .inr ⟨i, rfl, by rw [h3]; exact hc, h1⟩⟩
end Go.Proofs.YtfcaokpadodijaaGreat
/- Subbed: who comes in from the bench. -/
namespace Go.Proofs.YtfcaokpadodijaaGreat
open Go.RowKit

theorem first2_zero {a b : Int} (h : firstE [a, b] = 0) : a = 0 ∧ b = 0 := by
 unfold firstE at h
 by_cases ha : a = 0
 ·refine ⟨ha, ?_⟩
  unfold firstE at h
  by_cases hb : b = 0
  ·exact hb
  ·simp [ha, hb] at h
 ·simp [ha] at h
theorem fis_nil (w : World) (lo : Nat) : Fis w lo (.slice none 0 0) [] := ⟨by simp, by simp, .inl ⟨rfl, rfl⟩⟩
theorem below_set {b X o : Nat} {w w' : World} (h : Below b w w') (hX : b ≤ X) (a : Value) : Below b w (w'.setCell ⟨X, o, none⟩ a) := h.setCell (p := ⟨X, o, none⟩) hX a
end Go.Proofs.YtfcaokpadodijaaGreat
/- slices.Compare at strings. -/
namespace Go.Proofs.YtfcaokpadodijaaGreat
open Go.RowKit

def cmpStr (a b : ByteArray) : Int := if ltS a b then -1 else if ltS b a then 1 else 0
theorem nanS_calls (a : ByteArray) (w : World) : Calls Tryz.prog 146 #[.string a] w fun e w' => e = .returned (.bool false) ∧ w' = w := by
 go_enter Tryz.func146, Tryz.ntmps146
 go_wp2_with fail
 go_ret
 exact ⟨ret_bool (by simp), rfl⟩
set_option maxRecDepth 100000 in
theorem cmpStr_calls (a b : ByteArray) (w : World) : Calls Tryz.prog 134 #[.string a, .string b] w fun e w' => e = .returned (.int .i64 (cmpStr a b)) ∧ w' = w := by
 have HC := Lib.hid (show cmpStr a b = if ltS a b then -1 else if ltS b a then 1 else 0 from rfl)
 have C := Lib.hid (fun x => nanS_calls x w)
 generalize cmpStr a b = r at HC ⊢
 go_enter Tryz.func134, Tryz.ntmps134
 go_wp2_with fail
 refine (C.out _).mono ?_
 rintro e w' ⟨rfl, rfl⟩
 go_wp2_with fail
 refine (C.out _).mono ?_
 rintro e w' ⟨rfl, rfl⟩
 by_cases h1 : ltS a b = true
 ·have e1 : Op.bytesLess a.toList b.toList = true := h1
  obtain rfl : r = -1 := by rw [HC.out, if_pos h1]
  clear h1; go_wp2_with fail
  go_ret
  exact ⟨rfl, rfl⟩
 ·have h1' : ltS a b = false := by cases h : ltS a b <;> simp_all
  have e1 : Op.bytesLess a.toList b.toList = false := h1'
  by_cases h2 : beqS a b = true
  ·have e2 : (a.toList == b.toList) = true := h2
   have h3 : ltS b a = false := by have := leS_eq a b; rw [e1, e2] at this; simpa using this.symm
   obtain rfl : r = 0 := by rw [HC.out, if_neg h1, h3]; rfl
   clear h1 h1' h2 h3; go_wp2_with fail
   go_ret
   exact ⟨rfl, rfl⟩
  ·have h2' : beqS a b = false := by cases h : beqS a b <;> simp_all
   have e2 : (a.toList == b.toList) = false := h2'
   obtain rfl : r = 1 := by rw [HC.out, if_neg h1, if_pos (ltS_or h1' h2')]
   clear h1 h1' h2 h2'; go_wp2_with fail
   go_ret
   exact ⟨rfl, rfl⟩
def cmpL : List ByteArray → List ByteArray → Int
 | [], [] => 0
 | [], _ :: _ => -1
 | _ :: _, [] => 1
 | a :: x, b :: y => if cmpStr a b = 0 then cmpL x y else cmpStr a b
theorem cmpL_end (ys : List ByteArray) : cmpL [] ys = if 0 < ys.length then -1 else 0 := by cases ys <;> simp [cmpL]
set_option maxRecDepth 100000 in
set_option maxHeartbeats 2000000 in
theorem compareS_calls (lo lo' : Nat) (v u : Value) (xs ys : List ByteArray) (w : World) (hx : Strs w lo v xs) (hy : Strs w lo' u ys) :
  Calls Tryz.prog 111 #[v, u] w fun e w' => e = .returned (.int .i64 (cmpL xs ys)) ∧ w' = w := by
 have HX := Lib.hid hx
 have HY := Lib.hid hy
 have hnx : xs.length ≤ 1000000 := by rcases strs_at hx with ⟨_, rfl⟩ | ⟨_, _, _, _, _, _, h, _⟩ <;> simp_all
 have hny : ys.length ≤ 1000000 := by rcases strs_at hy with ⟨_, rfl⟩ | ⟨_, _, _, _, _, _, h, _⟩ <;> simp_all
 obtain ⟨a, c, rfl⟩ := strs_shape hx
 obtain ⟨a', c', rfl⟩ := strs_shape hy
 obtain ⟨r, hr⟩ : ∃ r, cmpL xs ys = r := ⟨_, rfl⟩
 rw [hr]
 have Hr := Lib.hid hr
 clear hx hy hr
 go_enter Tryz.func111, Tryz.ntmps111
 go_wp2_with fail
 go_loop [11] (fun i => ∃ k : Nat, k ≤ xs.length ∧ k ≤ ys.length ∧ i = .int .i64 k ∧ Hid (cmpL (xs.drop k) (ys.drop k) = r)) (fun i => xs.length - (intOf i).toNat)
 case atStart => exact ⟨0, Nat.zero_le _, Nat.zero_le _, rfl, Lib.hid (by simpa using Hr.out)⟩
 case round =>
  obtain ⟨k, hk, hky, rfl, H⟩ := hrel; by_cases hlt : k < xs.length
  ·obtain ⟨x, hx⟩ : ∃ x, xs[k]? = some x := ⟨_, List.getElem?_eq_getElem hlt⟩
   have ex : xs.drop k = x :: xs.drop (k + 1) := by rw [List.drop_eq_getElem_cons hlt, (List.getElem?_eq_some_iff.1 hx).2]
   rcases strs_at HX.out with ⟨_, h⟩ | ⟨g, off, cap, e, _, _, _, hcell⟩
   ·rw [h] at hlt; simp at hlt
   simp only [Value.slice.injEq] at e
   obtain ⟨rfl, -, rfl⟩ := e; have x0 := hcell k x hx; by_cases hly : k < ys.length
   ·obtain ⟨y, hy⟩ : ∃ y, ys[k]? = some y := ⟨_, List.getElem?_eq_getElem hly⟩
    have ey : ys.drop k = y :: ys.drop (k + 1) := by rw [List.drop_eq_getElem_cons hly, (List.getElem?_eq_some_iff.1 hy).2]
    rcases strs_at HY.out with ⟨_, h⟩ | ⟨g', off', cap', e, _, _, _, hcell'⟩
    ·rw [h] at hly; simp at hly
    simp only [Value.slice.injEq] at e
    obtain ⟨rfl, -, rfl⟩ := e; have y0 := hcell' k y hy; have Hs := Lib.hid (show (if cmpStr x y = 0 then cmpL (xs.drop (k + 1)) (ys.drop (k + 1)) else cmpStr x y) = r by have := H.out; rw [ex, ey] at this; exact this)
    have n1 : decide ((ys.length : Int) ≤ (k : Int)) = false := decide_eq_false (by omega)
    have C := Lib.hid (cmpStr_calls x y w); generalize cmpStr x y = q at Hs C
    clear hcell hcell' hx hy ex ey; go_wp2_with fail
    refine C.out.mono ?_; rintro e w' ⟨rfl, rfl⟩; by_cases hq : q = 0
    ·have Hn := Lib.hid (show cmpL (xs.drop (k + 1)) (ys.drop (k + 1)) = r by have := Hs.out; rwa [if_pos hq] at this)
     subst hq; go_wp2_with fail
     go_round
     case rel => exact ⟨k + 1, by omega, by omega, by go_num, Hn⟩
     case measure => simp [intOf]; omega
    ·have Hn := Lib.hid (show q = r by have := Hs.out; rwa [if_neg hq] at this)
     have q1 : (q != 0) = true := by simp [hq]
     clear hq; go_wp2_with fail
     go_ret
     exact ⟨ret_int Hn.out, rfl⟩
   ·obtain rfl : k = ys.length := by omega
    have Hn := Lib.hid (show (1 : Int) = r by have := H.out; rw [ex, List.drop_length] at this; exact this)
    clear hcell hx ex hly; go_wp2_with fail
    go_ret
    exact ⟨ret_int Hn.out, rfl⟩
  ·obtain rfl : k = xs.length := by omega
   have Hn := Lib.hid (show (if xs.length < ys.length then (-1 : Int) else 0) = r by
    have := H.out
    rw [List.drop_length, cmpL_end, List.length_drop] at this
    rw [← this]; by_cases h : xs.length < ys.length
    ·rw [if_pos h, if_pos (by omega)]
    ·rw [if_neg h, if_neg (by omega)])
   by_cases h : xs.length < ys.length
   ·have Hm := Lib.hid (show (-1 : Int) = r by have := Hn.out; rwa [if_pos h] at this)
    go_wp2_with fail
    go_ret
    exact ⟨ret_int Hm.out, rfl⟩
   ·have Hm := Lib.hid (show (0 : Int) = r by have := Hn.out; rwa [if_neg h] at this)
    go_wp2_with fail
    go_ret
    exact ⟨ret_int Hm.out, rfl⟩
end Go.Proofs.YtfcaokpadodijaaGreat
/- Points and Total. -/
namespace Go.Proofs.YtfcaokpadodijaaGreat
open Go.RowKit

/-- What Points answers: the points in hundredths, and what is wrong. -/
def ptsE (rs : List RD) (ks : List ByteArray) (l : LD) : Int := firstE [wrE rs ks, lnE l]
def ptsF (rs : List RD) (ks : List ByteArray) (l : LD) : Int × Int := if ptsE rs ks l = 0 then lowF (ptsI rs ks l.stats) 100 else (0, 0)
def TwoIs (f : Int × Int) (x : Int) (w : World) (e : Ending) (w' : World) : Prop := e = .returned (.tuple #[frV f, .int .i64 x]) ∧ Below w.heap.size w w'
def o78_1 : Array Go.Oper := #[
 ⟨some 9, .move (.tmp 0), 115, "score.go:45", #[], none⟩,
 ⟨some 10, .move (.tmp 1), 39, "score.go:45", #[], none⟩,
 ⟨some 11, .call { callee := .value (.func 118), args := #[.tmp 9, .tmp 10], argTypes := #[115, 39] }, 35, "score.go:45", #[⟨0, .data⟩, ⟨1, .data⟩], none⟩,
 ⟨some 12, .load 120 (.tmp 5), 120, "score.go:45", #[], none⟩,
 ⟨some 13, .call { callee := .value (.func 119), args := #[.tmp 12], argTypes := #[120] }, 35, "score.go:45", #[⟨3, .data⟩, ⟨2, .chain⟩], none⟩,
 ⟨some 14, .buildSlice 90 2 #[(0, .tmp 11), (1, .tmp 13)], 90, "score.go:45", #[⟨2, .data⟩, ⟨4, .data⟩], none⟩,
 ⟨some 15, .call { callee := .value (.func 46), args := #[.tmp 14], argTypes := #[90] }, 35, "score.go:45", #[⟨5, .data⟩, ⟨4, .chain⟩], none⟩,
 ⟨some 8, .assign (.tmp 15), 35, "score.go:45", #[⟨6, .data⟩, ⟨6, .chain⟩, ⟨0, .phase⟩, ⟨1, .phase⟩, ⟨2, .phase⟩, ⟨3, .phase⟩, ⟨4, .phase⟩, ⟨5, .phase⟩, ⟨6, .phase⟩], none⟩]
theorem o78_1_0 : o78_1[0]? = some (⟨some 9, .move (.tmp 0), 115, "score.go:45", #[], none⟩ : Go.Oper) := rfl
theorem o78_1_1 : o78_1[1]? = some (⟨some 10, .move (.tmp 1), 39, "score.go:45", #[], none⟩ : Go.Oper) := rfl
theorem o78_1_2 : o78_1[2]? = some (⟨some 11, .call { callee := .value (.func 118), args := #[.tmp 9, .tmp 10], argTypes := #[115, 39] }, 35, "score.go:45", #[⟨0, .data⟩, ⟨1, .data⟩], none⟩ : Go.Oper) := rfl
theorem o78_1_3 : o78_1[3]? = some (⟨some 12, .load 120 (.tmp 5), 120, "score.go:45", #[], none⟩ : Go.Oper) := rfl
theorem o78_1_4 : o78_1[4]? = some (⟨some 13, .call { callee := .value (.func 119), args := #[.tmp 12], argTypes := #[120] }, 35, "score.go:45", #[⟨3, .data⟩, ⟨2, .chain⟩], none⟩ : Go.Oper) := rfl
theorem o78_1_5 : o78_1[5]? = some (⟨some 14, .buildSlice 90 2 #[(0, .tmp 11), (1, .tmp 13)], 90, "score.go:45", #[⟨2, .data⟩, ⟨4, .data⟩], none⟩ : Go.Oper) := rfl
theorem o78_1_6 : o78_1[6]? = some (⟨some 15, .call { callee := .value (.func 46), args := #[.tmp 14], argTypes := #[90] }, 35, "score.go:45", #[⟨5, .data⟩, ⟨4, .chain⟩], none⟩ : Go.Oper) := rfl
theorem o78_1_7 : o78_1[7]? = some (⟨some 8, .assign (.tmp 15), 35, "score.go:45", #[⟨6, .data⟩, ⟨6, .chain⟩, ⟨0, .phase⟩, ⟨1, .phase⟩, ⟨2, .phase⟩, ⟨3, .phase⟩, ⟨4, .phase⟩, ⟨5, .phase⟩, ⟨6, .phase⟩], none⟩ : Go.Oper) := rfl
theorem o78_1_ns : Go.Region.noSelect o78_1 = true := by kernel_rfl
set_option maxRecDepth 100000 in
set_option maxHeartbeats 4000000 in
theorem points2_calls (lo lo' lo3 : Nat) (v kv x : Value) (rs : List RD) (ks : List ByteArray) (l : LD) (w : World) (hR : Rls w lo v rs) (hs : ∀ r ∈ rs, SmallR r) (hn : rs.length ≤ 1000) (hK : Strs w lo' kv ks) (hk : ∀ k ∈ ks, k.size ≤ 1000) (hkn : ks.length ≤ 1000000) (hT : Tds w lo3 x l.stats) (hl : SmallL l) :
  Calls Tryz.prog 78 #[v, kv, lnV l x] w (TwoIs (ptsF rs ks l) (ptsE rs ks l) w) := by
 obtain ⟨ra, rc, rfl⟩ := rls_shape hR
 obtain ⟨ka, kc, rfl⟩ := strs_shape hK
 obtain ⟨xa, xc, rfl⟩ := tds_shape hT
 obtain ⟨W, hW⟩ : ∃ W, W = (w.alloc (.cells #[.string l.player, .int .i64 l.week, .slice xa l.stats.length xc] 120)).alloc (.cells #[.int .i64 0, .int .i64 0] 34) := ⟨_, rfl⟩
 have hwW : Below w.heap.size w W := by rw [hW]; exact (below_alloc w _).trans ((below_alloc _ _).mono (by simp))
 have hx : W.heap[w.heap.size]? = some (.cells #[.string l.player, .int .i64 l.week, .slice xa l.stats.length xc] 120 (0, 0)) := by rw [hW]; exact heap_al (heap_alloc_new w _) _
 have hf : W.heap[w.heap.size + 1]? = some (.cells #[.int .i64 0, .int .i64 0] 34 (0, 0)) := by
  rw [hW]; have := heap_alloc_new (w.alloc (.cells #[.string l.player, .int .i64 l.week, .slice xa l.stats.length xc] 120)) (.cells #[.int .i64 0, .int .i64 0] 34); rwa [World.size_alloc] at this
 have x0 := cell_at hx 0 rfl
 have x1 := cell_at hx 1 rfl
 have x2 := cell_at hx 2 rfl
 have hb0 := (Below.refl W.heap.size W).drew
 have HS := Lib.hid (show ∀ w', Below W.heap.size W w' → (Below W.heap.size W w' ∧ w'.cell? ⟨w.heap.size, 0, none⟩ = some (.string l.player) ∧ w'.cell? ⟨w.heap.size, 1, none⟩ = some (.int .i64 l.week) ∧ w'.cell? ⟨w.heap.size, 2, none⟩ = some (.slice xa l.stats.length xc)) from fun w' hb => ⟨hb, below_cell hb x0, below_cell hb x1, below_cell hb x2⟩)
 have C1 := Lib.hid (fun w' (hb : Below W.heap.size W w') => wrongRules_calls lo lo' _ _ rs ks w' (hR.below (below_step hwW hb)) hs (by omega) (hK.below (below_step hwW hb)) hk hkn)
 have C2 := Lib.hid (fun w' (hb : Below W.heap.size W w') => checkLine_calls lo3 l _ w' (hT.below (below_step hwW hb)) hl)
 have C3 := Lib.hid (fun (h : ptsE rs ks l = 0) w' (hb : Below W.heap.size W w') => points_calls lo lo' lo3 _ _ _ rs ks l w' (hR.below (below_step hwW hb)) hs hn (fit_of (firstE_all0 (firstE_all0 h (wrE rs ks) (by simp)) (chkRl rs) (by simp)) (firstE_all0 h (lnE l) (by simp))) (hK.below (below_step hwW hb)) (hT.below (below_step hwW hb)))
 have HP := Lib.hid (fun (h : ptsE rs ks l = 0) => pts_bound (ks := ks) (fit_of (firstE_all0 (firstE_all0 h (wrE rs ks) (by simp)) (chkRl rs) (by simp)) (firstE_all0 h (lnE l) (by simp))) (rules_ok (firstE_all0 (firstE_all0 h (wrE rs ks) (by simp)) (chkRl rs) (by simp))).1)
 have HF0 := Lib.hid (fun (h : ptsE rs ks l ≠ 0) => (show ptsF rs ks l = (0, 0) by unfold ptsF; rw [if_neg h]))
 have HF1 := Lib.hid (fun (h : ptsE rs ks l = 0) => (show ptsF rs ks l = lowF (ptsI rs ks l.stats) 100 by unfold ptsF; rw [if_pos h]))
 have HE := Lib.hid (show firstE [wrE rs ks, lnE l] = ptsE rs ks l from rfl)
 have Hf := Lib.hid hf
 have HwW := Lib.hid hwW
 clear hR hs hn hK hk hkn hT hl hx x0 x1 x2 hf
 generalize wrE rs ks = E1 at C1 HE
 unfold lnV at C2 C3 ⊢
 generalize lnE l = E2 at C2 HE
 generalize ptsE rs ks l = E at C3 HP HF0 HF1 HE ⊢
 generalize ptsF rs ks l = R at HF0 HF1 ⊢
 go_enter Tryz.func78, Tryz.ntmps78
 go_upto_region 1 with fail
 rw [← hW]
 clear hW
 show Code.wp _ (Code.region 1 o78_1 true) _ _ _
 refine region_start 8 (fun w' => Below W.heap.size W w' ∧ w'.cell? ⟨w.heap.size, 0, none⟩ = some (.string l.player) ∧ w'.cell? ⟨w.heap.size, 1, none⟩ = some (.int .i64 l.week) ∧ w'.cell? ⟨w.heap.size, 2, none⟩ = some (.slice xa l.stats.length xc)) (by kernel_rfl) rfl ?_ (fun hHeld => ?_)
 ·(exact HS.out _ (by first | assumption | exact hHeld.1 | exact below_step hHeld.1 (by first | assumption | exact below_alloc _ _)))
 refine take_to 0 9 (bQ 8 1) (v := ?_) o78_1_0 rfl o78_1_ns (by kernel_rfl) (by kernel_rfl) (fun _ _ _ h => h) (by rfl) ?y0 (by assumption) ?_
 case y0 => intro w h; (try dsimp only at h); go_simp; try with_reducible rfl
 simp only [sE0, sE1]
 refine take_to 1 10 (bQ 8 3) (v := ?_) o78_1_1 rfl o78_1_ns (by kernel_rfl) (by kernel_rfl) (fun _ _ _ h => h) (by rfl) ?y1 (by assumption) ?_
 case y1 => intro w h; (try dsimp only at h); go_simp; try with_reducible rfl
 simp only [sE0, sE1]
 refine take_to 3 12 (bQ 8 11) (v := ?_) o78_1_3 rfl o78_1_ns (by kernel_rfl) (by kernel_rfl) (fun _ _ _ h => h) (by rfl) ?y3 (by assumption) ?_
 case y3 => intro w h; (try dsimp only at h); go_simp; try with_reducible rfl
 simp only [sE0, sE1]
 refine run_to 2 (bQ 8 15) o78_1_2 (by kernel_rfl) (by kernel_rfl) (by rfl) (fun K hK => ?_)
 go_simp
 refine (C1.out _ (by exact hHeld.1)).mono ?_
 rintro e w' ⟨rfl, hb⟩
 go_wp2_with fail
 refine hK.out _ _ ?_ (fun hHeld => ?_)
 ·(exact HS.out _ (by first | assumption | exact hHeld.1 | exact below_step hHeld.1 (by first | assumption | exact below_alloc _ _)))
 clear hK K
 try simp only [Act.put, sEt, sE0, sE1]
 refine run_to 4 (bQ 8 31) o78_1_4 (by kernel_rfl) (by kernel_rfl) (by rfl) (fun K hK => ?_)
 go_simp
 refine (C2.out _ (by exact hHeld.1)).mono ?_
 rintro e w' ⟨rfl, hb⟩
 go_wp2_with fail
 refine hK.out _ _ ?_ (fun hHeld => ?_)
 ·(exact HS.out _ (by first | assumption | exact hHeld.1 | exact below_step hHeld.1 (by first | assumption | exact below_alloc _ _)))
 clear hK K
 try simp only [Act.put, sEt, sE0, sE1]
 refine run_to 5 (bQ 8 63) o78_1_5 (by kernel_rfl) (by kernel_rfl) (by rfl) (fun K hK => ?_)
 go_simp
 refine hK.out _ _ ?_ (fun hHeld => ?_)
 ·(exact HS.out _ (by first | assumption | exact hHeld.1 | exact below_step hHeld.1 (by first | assumption | exact below_alloc _ _)))
 clear hK K
 try simp only [Act.put, sEt, sE0, sE1]
 refine run_to 6 (bQ 8 127) o78_1_6 (by kernel_rfl) (by kernel_rfl) (by rfl) (fun K hK => ?_)
 go_simp
 refine (orE_calls _ 0 2 [E1, E2] _ (by simp) (by exact nums2 _ _ _ _)).mono ?_
 rintro e w' ⟨rfl, rfl⟩
 rw [HE.out]
 go_wp2_with fail
 refine hK.out _ _ ?_ (fun hHeld => ?_)
 ·(exact HS.out _ (by first | assumption | exact hHeld.1 | exact below_step hHeld.1 (by first | assumption | exact below_alloc _ _)))
 clear hK K
 try simp only [Act.put, sEt, sE0, sE1]
 refine take_to 7 8 (bQ 8 255) (v := ?_) o78_1_7 rfl o78_1_ns (by kernel_rfl) (by kernel_rfl) (fun _ _ _ h => h) (by rfl) ?y7 (by assumption) ?_
 case y7 => intro w h; (try dsimp only at h); go_simp; try with_reducible rfl
 simp only [sE0, sE1]
 refine wpAnyH_done (by kernel_rfl) ?_ _
 have hb1 := hHeld.1
 have hf1 := cells_later Hf.out hb1
 obtain ⟨-, x0, x1, x2⟩ := hHeld
 have f0 := free_of hf1 0
 have f1 := free_of hf1 1
 have g0 := cell_at hf1 0 rfl
 have g1 := cell_at hf1 1 rfl
 by_cases hz : E = 0
 ·have e1 : (E != 0) = false := by simp [hz]
  have HC := Lib.hid (C3.out hz); have HB := HP.out hz; have HR := Lib.hid (HF1.out hz); have Hz := Lib.hid hz; have Hb1 := Lib.hid hb1; clear hz C1 C2 hb0 hb hf1 f0 f1 g0 g1; go_wp2_with fail
  refine (HC.out _ Hb1.out).mono ?_; rintro e w2 ⟨rfl, hb2⟩; go_wp2_with fail
  refine (ofHundredths_calls _ _ (by unfold Int64; omega)).mono ?_
  rintro e w3 ⟨rfl, hb3⟩; have hb03 := below_step (below_step Hb1.out hb2) hb3; have hf3 := cells_later Hf.out hb03; have f0 := free_of hf3 0; have f1 := free_of hf3 1; have g0 := cell_at hf3 0 rfl; have g1 := cell_at hf3 1 rfl; rw [← HR.out, Hz.out]; have Hb3 := Lib.hid (below_step HwW.out hb03); clear hb2 hb3 hb03 hf3 HB; rw [show frV R = .agg #[.int .i64 R.1, .int .i64 R.2] from rfl]
  obtain ⟨r1, r2⟩ := R; dsimp only
  go_wp2_with fail
  try simp only [Exit.inBlock, Exit.then]
  refine bodyPost_ret (v := .tuple #[.agg #[.int .i64 r1, .int .i64 r2], .int .i64 0]) ?_ rfl ⟨by rw [Hz.out]; rfl, (Hb3.out.setCell (p := ⟨w.heap.size + 1, 0, none⟩) (by simp) _).setCell (p := ⟨w.heap.size + 1, 1, none⟩) (by simp) _⟩
  rw [results_cell_tmp rfl]; go_simp
 ·have e1 : (E != 0) = true := by simp [hz]
  have HR := HF0.out hz; subst HR; have Hb1 := Lib.hid (below_step hwW hb1); clear hz C1 C2 C3 hb0 hb hf1 hb1; go_wp2_with fail
  try simp only [Exit.inBlock, Exit.then]
  refine bodyPost_ret (v := .tuple #[.agg #[.int .i64 0, .int .i64 0], .int .i64 E]) ?_ rfl ⟨rfl, (Hb1.out.setCell (p := ⟨w.heap.size + 1, 0, none⟩) (by simp) _).setCell (p := ⟨w.heap.size + 1, 1, none⟩) (by simp) _⟩
  rw [results_cell_tmp rfl]; go_simp
end Go.Proofs.YtfcaokpadodijaaGreat
/- SubbedOf: the same. -/
namespace Go.Proofs.YtfcaokpadodijaaGreat
open Go.RowKit

theorem known_mem {cs : List ScD} {k : ByteArray} (h : knownB (cs.map ScD.who) k = true) : ∃ c ∈ cs, c.who = k := by
 unfold knownB at h
 rw [Bool.and_eq_true] at h
 obtain ⟨h1, h2⟩ := h
 have hl := of_decide_eq_true h1
 rw [List.length_map] at hl
 have hk := beqS_iff.1 h2
 have : keyAt (cs.map ScD.who) (bsI (cs.map ScD.who) k) = (cs[bsI (cs.map ScD.who) k]).who := keyAt_who (List.getElem?_eq_getElem hl)
 exact ⟨_, List.getElem_mem hl, by rw [← this, hk]⟩
theorem each_zero {n : Nat} {most : Int} {f : Nat → Int} (h : eachE n most f = 0) : ∀ i, i < n → f i = 0 := by
 unfold eachE at h
 split at h
 ·simp at h
 ·intro i
  induction i using Nat.strongRecOn with
  | ind i ih =>
   intro hi; by_cases hz : f i = 0
   ·exact hz
   ·have := errsTo_hit (n := n) hi (fun j hj => ih j hj (by omega)) hz
    rw [Int.toNat_natCast] at h
    rw [this] at h
    exact absurd h hz
theorem wn_known {cs : List ScD} {fs : List FiD} {ks : List ByteArray} (h : wnE cs fs ks = 0) : ∀ b ∈ ks, knownB (cs.map ScD.who) b = true := by
 intro b hb
 obtain ⟨i, hi⟩ := List.getElem?_of_mem hb
 have h1 := each_zero h i (List.getElem?_eq_some_iff.1 hi).1
 unfold wnF at h1
 rw [stAt_some hi] at h1
 cases hk : knownB (cs.map ScD.who) b
 ·rw [hk] at h1
  simp [firstE, unlessE] at h1
 ·rfl
end Go.Proofs.YtfcaokpadodijaaGreat
/- Both ways of summing fills, the captain twice. Plain facts. -/
namespace Go.Proofs.YtfcaokpadodijaaGreat
open Go.RowKit

theorem eq_of_beqS {a b : ByteArray} (h : beqS a b = true) : a = b := beqS_iff.1 h
end Go.Proofs.YtfcaokpadodijaaGreat
/- The reference's WhoFault: the same as wrongNames, of scorers whose names rise. -/
namespace Go.Proofs.YtfcaokpadodijaaGreat
open Go.RowKit

set_option maxRecDepth 100000 in
set_option maxHeartbeats 16000000 in
theorem whoFault_calls (lo lo' : Nat) (v z : Value) (cs : List ScD) (ks : List ByteArray) (w : World) (hC : Scs w lo v cs) (hsort : SortedK (cs.map ScD.who)) (hcn : cs.length ≤ 1000000) (hK : Strs w lo' z ks) (hkn : ks.length ≤ 1000000) :
  Calls Tryz.prog 32 #[v, z] w (IntBelow (wnE cs [] ks) w) := by
 have HC := Lib.hid hC
 have HK := Lib.hid hK
 have Hsort := Lib.hid hsort
 obtain ⟨ca, cc, rfl⟩ := NRows.shape hC
 obtain ⟨ka, kc, rfl⟩ := strs_shape hK
 clear hC hsort hK
 have HE0 := Lib.hid (show wnE cs [] ks = eachE ks.length 20 (wnF cs [] ks) from rfl)
 rw [HE0.out]
 by_cases hm : ks.length ≤ 20
 ·have Hm := Lib.hid (show (ks.length : Int) ≤ 20 by omega)
  go_enter Tryz.func32, Tryz.ntmps32; go_wp2_with fail
  go_loopw [12] (fun i wr => ∃ k : Nat, k ≤ ks.length ∧ i = .int .i64 k ∧ Hid (∀ i, i < k → wnF cs [] ks i = 0) ∧ Below w.heap.size w wr) (fun i _ => ks.length - (intOf i).toNat)
  case atStart => exact ⟨0, Nat.zero_le _, rfl, Lib.hid (fun i hi => by omega), Below.refl _ _⟩
  case round =>
   obtain ⟨k, hk, rfl, H0, hb⟩ := hrel; by_cases hlt : k < ks.length
   ·obtain ⟨s, hs⟩ : ∃ s, ks[k]? = some s := ⟨_, List.getElem?_eq_getElem hlt⟩
    have Hhit := Lib.hid (fun (h : wnF cs [] ks k ≠ 0) => (show eachE ks.length 20 (wnF cs [] ks) = wnF cs [] ks k from eachE_hit Hm.out hlt H0.out h))
    have Hnext := Lib.hid (fun (h : wnF cs [] ks k = 0) i (hi : i < k + 1) => (show wnF cs [] ks i = 0 by
     rcases Nat.lt_succ_iff_lt_or_eq.1 hi with h' | rfl
     ·exact H0.out i h'
     ·exact h))
    have Hv := Lib.hid (show wnF cs [] ks k = firstE [unlessE (knownB (cs.map ScD.who) s) 8, unlessE (!cnS (ks.take k) s) 6, unlessE true 13] by unfold wnF; rw [stAt_some hs]; rfl)
    rcases strs_at HK.out with ⟨_, h⟩ | ⟨g, off, cap, e, _, hg, _, hcell⟩
    ·rw [h] at hlt; simp at hlt
    simp only [Value.slice.injEq] at e
    obtain ⟨rfl, -, rfl⟩ := e; have q0 := below_cell hb (hcell k s hs); have hfit : ks.length ≤ kc := Rows.fits HK.out
    have hic : k ≤ kc := by omega
    have hil : k ≤ ks.length := by omega
    have hlt' : (k : Int) < (ks.length : Int) := by omega
    have HT := Lib.hid (show Strs w lo' (.slice (some ⟨g, off, none⟩) k kc) (ks.take k) from by
     have := rows_take HK.out (m := k) (by simp) (by omega)
     rw [← List.map_take] at this
     exact this)
    clear hcell hs; go_wp2_with fail
    refine (scorerAt_calls lo _ cs s wr (NRows.below HC.out hb)).mono ?_; rintro e w1 hat; have hb1 := below_step hb hat.2; obtain ⟨kv, rfl, hkv⟩ := at_of Hsort.out hat; clear hat q0; rcases hkv with ⟨rfl, hkn⟩ | ⟨q, rfl, _, hkn⟩
    ·rw [hkn] at Hv
     clear hkn; go_wp2_with fail
     go_ret
     exact ⟨ret_int (by rw [Hhit.out (by rw [Hv.out]; simp [firstE, unlessE]), Hv.out]; simp [firstE, unlessE]), hb1⟩
    ·rw [hkn] at Hv
     clear hkn; have CC := Lib.hid (contains_calls lo' _ (ks.take k) s w1 (HT.out.below hb1)); generalize cnS (ks.take k) s = tb at Hv CC
     go_wp2_with fail
     refine CC.out.mono ?_; rintro e w2 ⟨rfl, rfl⟩; cases tb
     ·go_wp2_with fail
      go_roundw
      case rel => exact ⟨k + 1, by omega, by go_num, Lib.hid (Hnext.out (by rw [Hv.out]; simp [firstE, unlessE])), hb1⟩
      case measure => simp [intOf]; omega
     ·go_wp2_with fail
      go_ret
      exact ⟨ret_int (by rw [Hhit.out (by rw [Hv.out]; simp [firstE, unlessE]), Hv.out]; simp [firstE, unlessE]), hb1⟩
   ·obtain rfl : k = ks.length := by omega
    have Hnone := Lib.hid (show eachE ks.length 20 (wnF cs [] ks) = 0 from eachE_none Hm.out H0.out)
    go_wp2_with fail
    go_ret
    exact ⟨ret_int Hnone.out.symm, hb⟩
 ·have HE := Lib.hid (show eachE ks.length 20 (wnF cs [] ks) = 2 by unfold eachE; rw [if_pos (by omega)])
  have hgt : (20 : Int) < (ks.length : Int) := by omega
  rw [HE.out]; clear hm; go_enter Tryz.func32, Tryz.ntmps32; go_wp2_with fail
  go_ret
  exact ⟨rfl, Below.refl _ _⟩
end Go.Proofs.YtfcaokpadodijaaGreat
namespace Go.Proofs.YtfcaokpadodijaaGreat
open Go.RowKit

theorem one_row {w : World} {T g sz cap : Nat} {row : List Value} (h : w.heap[g]? = some (.cells row.toArray T (0, 0))) (hr : row.length = sz) (hc : 1 ≤ cap) : Rows w T 0 sz (.slice (some ⟨g, 0, none⟩) 1 cap) [row] := by
 refine ⟨by simp, by simpa using hr, .inr ⟨g, 0, cap, _, _, rfl, ⟨Nat.zero_le _, by simpa using hc⟩, h, fun i j u hu => ?_⟩⟩
 match i, hu with
 | 0, hu => simpa using hu
 | i + 1, hu => simp at hu
def exR : RD := ⟨⟨#[114]⟩, E_goal, ⟨#[]⟩, 1, 0, 1, 2⟩
def exT : TD := ⟨E_goal, 3⟩
def exL : LD := ⟨E_a, 1, [exT]⟩
theorem ex_e : ptsE [exR] [] exL = 0 := by kernel_rfl
theorem ex_f : ptsF [exR] [] exL = (3, 2) := by kernel_rfl
set_option maxRecDepth 100000 in
set_option maxHeartbeats 2000000 in
theorem scored_calls (w : World) : Calls Tryz.prog 27 #[] w fun e w' => e = .returned (.bool true) ∧ Below w.heap.size w w' := by
 obtain ⟨W, hW⟩ : ∃ W, W = (w.alloc (.cells (rlRow exR).toArray 114)).alloc (.cells (stRow exT).toArray 117) := ⟨_, rfl⟩
 have hwW : Below w.heap.size w W := by rw [hW]; exact (below_alloc w _).trans ((below_alloc _ _).mono (by simp))
 have hx : W.heap[w.heap.size]? = some (.cells (rlRow exR).toArray 114 (0, 0)) := by rw [hW]; exact heap_al (heap_alloc_new w _) _
 have hy : W.heap[w.heap.size + 1]? = some (.cells (stRow exT).toArray 117 (0, 0)) := by
  rw [hW]; have := heap_alloc_new (w.alloc (.cells (rlRow exR).toArray 114)) (.cells (stRow exT).toArray 117); rwa [World.size_alloc] at this
 have hC := points2_calls 0 0 0 (.slice (some ⟨w.heap.size, 0, none⟩) 1 1) (.slice none 0 0) (.slice (some ⟨w.heap.size + 1, 0, none⟩) 1 1) [exR] [] exL W (one_row hx rfl (Nat.le_refl _)) (by simp [SmallR, exR, Int64]; decide) (by simp) ⟨by simp, by simp, .inl ⟨rfl, rfl⟩⟩ (by simp) (by simp) (one_row hy rfl (Nat.le_refl _)) (by simp [SmallL, SmallT, exL, exT, Int64]; decide)
 rw [ex_e, ex_f] at hC
 have HC := Lib.hid hC
 have HwW := Lib.hid hwW
 clear hx hy hwW hC
 unfold lnV exL exT E_a TwoIs frV at HC
 unfold rlRow stRow exR exT E_goal at hW
 go_enter Tryz.func27, Tryz.ntmps27
 go_wp2_with fail
 change Calls _ _ _ ((w.alloc (.cells #[.string ⟨#[114]⟩, .string ⟨#[103, 111, 97, 108]⟩, .string ⟨#[]⟩, .int .i64 1, .int .i64 0, .int .i64 1, .int .i64 2] 114)).alloc (.cells #[.string ⟨#[103, 111, 97, 108]⟩, .int .i64 3] 117)) _
 have HW := Lib.hid hW
 clear hW
 rw [← HW.out]
 refine HC.out.mono ?_
 rintro e w' ⟨rfl, hb'⟩
 have hb := below_step HwW.out hb'
 clear hb'
 go_wp2_with fail
 have hx := heap_alloc_new w' (.cells #[.int .i64 3, .int .i64 2] 34)
 have hb2 := below_step hb (below_alloc w' (.cells #[.int .i64 3, .int .i64 2] 34))
 go_ret
 exact ⟨rfl, hb2⟩
end Go.Proofs.YtfcaokpadodijaaGreat
