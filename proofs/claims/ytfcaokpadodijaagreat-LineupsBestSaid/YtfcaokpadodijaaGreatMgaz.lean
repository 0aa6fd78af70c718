/- The reference's LackingOf: by the sets of slots that can be filled. -/
import Derived.Test.YtfcaokpadodijaaGreatMgay
import Derived.Maps.RangeWalk
import Derived.Test.YtfcaokpadodijaaGreatMgap
import Derived.Test.YtfcaokpadodijaaGreatMgae
import Derived.Test.YtfcaokpadodijaaGreatMgar
/- Sets of small numbers, as the reference holds them: map[int]bool. -/
namespace Go.Proofs.YtfcaokpadodijaaGreat
open Go.RowKit Go.Maps

theorem lawI : Keyed Tryz.prog 3 := int_keyed Tryz.underlying3
def litN (m : Nat) : Lit := .int .i64 (m : Int)
theorem litN_inj {a b : Nat} (h : litN a = litN b) : a = b := by
 unfold litN at h
 injection h with _ h
 omega
theorem litN_wf {m : Nat} (h : m ≤ 1000000) : (Lit.int .i64 (m : Int)).wf = true := wf_nat m h
theorem litN_key {m : Nat} (h : m ≤ 1000000) : keyOf Tryz.prog 3 (.int .i64 (m : Int)) = some (litN m) := keyOf_int_mk Tryz.underlying3 (litN_wf h)
/-- A map whose keys are the numbers of S, none of which is 64 or more. -/
def ISet (w : World) (b n : Nat) (S : Nat → Prop) : Prop := ∃ D : DataW Value, w.ownsMap Tryz.prog 3 heldR b n D ∧ IsMap D ∧ ∀ l, has D l = true ↔ ∃ m, m < 64 ∧ S m ∧ l = litN m
section
variable {w w' : World} {b n : Nat} {S S' : Nat → Prop}
theorem ISet.congr (h : ISet w b n S) (e : ∀ m, m < 64 → (S m ↔ S' m)) : ISet w b n S' := by
 obtain ⟨D, h1, h2, h3⟩ := h
 exact ⟨D, h1, h2, fun l => (h3 l).trans ⟨fun ⟨m, a, s, e'⟩ => ⟨m, a, (e m a).1 s, e'⟩, fun ⟨m, a, s, e'⟩ => ⟨m, a, (e m a).2 s, e'⟩⟩⟩
theorem ISet.mono {n' : Nat} (h : ISet w b n S) (hn : n ≤ n') : ISet w b n' S := by
 obtain ⟨D, h1, h2, h3⟩ := h
 exact ⟨D, h1.mono hn, h2, h3⟩
theorem ISet.kept {row : Option Nat} (h : ISet w b n S) (hg : w.grownBy w' row) (hne : some b ≠ row) : ISet w' b n S := by
 obtain ⟨D, h1, h2, h3⟩ := h
 exact ⟨D, h1.kept hg hne, h2, h3⟩
theorem ISet.below (h : ISet w b n S) (hb : Below w.heap.size w w') : ISet w' b n S := h.kept (gb_below hb none) (by simp)
theorem ISet.lt (h : ISet w b n S) : b < w.heap.size := by obtain ⟨D, h1, _⟩ := h; exact h1.lt
theorem ISet.made (w : World) : ISet (w.alloc (.map #[] 0)) w.heap.size 0 (fun _ => False) :=
 ⟨.map [], World.ownsMap_made _ _ _ _, isMap_empty, fun l => by simp [has_eq]⟩
theorem ISet.put (h : ISet w b n S) (hn : n < 1000000) (m : Nat) (hm : m < 64) (v : Value) :
  ∃ w', (Instr.mapUpdate 124 (.map (some b)) (.int .i64 (m : Int)) v).run Tryz.prog w = .ok () w' ∧ ISet w' b (n + 1) (fun x => S x ∨ x = m) ∧ w.grownBy w' (some b) := by
 obtain ⟨D, h1, h2, h3⟩ := h
 have hl := litN_key (m := m) (by omega)
 obtain ⟨w', hrun, h4, h5⟩ := World.ownsMap.update h1 lawI Tryz.underlying124 (show n < maxLen by unfold maxLen; omega) hl (show heldR v = some (.held v, []) from rfl)
 refine ⟨w', hrun, ⟨_, h4, h2.put _ _, fun l => ?_⟩, h5⟩
 by_cases e : l = litN m
 ·subst e
  rw [has_put_same h2 (lawI.key hl)]; exact ⟨fun _ => ⟨m, hm, .inr rfl, rfl⟩, fun _ => rfl⟩
 ·rw [has_put_other e, h3 l]
  constructor
  ·rintro ⟨x, a, s, rfl⟩; exact ⟨x, a, .inl s, rfl⟩
  ·rintro ⟨x, a, s | rfl, rfl⟩
   ·exact ⟨x, a, s, rfl⟩
   ·exact absurd rfl e
end
end Go.Proofs.YtfcaokpadodijaaGreat
/- The reference's CanOf: by the sets of slots that can be taken. -/
namespace Go.Proofs.YtfcaokpadodijaaGreat
open Go.RowKit Go.Proofs.YtfcaokpadodijaaGreat.Mat

theorem uniq_at {cs : List ScD} (hs : SortedK (cs.map ScD.who)) {q q' : Nat} {c : ScD} (h : cs[q]? = some c) (h' : cs[q']? = some c) : q = q' := by
 have l1 := (List.getElem?_eq_some_iff.1 h).1
 have l2 := (List.getElem?_eq_some_iff.1 h').1
 rcases Nat.lt_trichotomy q q' with hq | hq | hq
 ·have := hs q q' hq (by rw [List.length_map]; exact l2)
  rw [keyAt_who h, keyAt_who h', ltS_irrefl] at this; cases this
 ·exact hq
 ·have := hs q' q hq (by rw [List.length_map]; exact l1)
  rw [keyAt_who h, keyAt_who h', ltS_irrefl] at this; cases this
/-- One place more, of the first P. -/
def Stp (F : Nat → Bool) (P m m' : Nat) : Prop := ∃ i, i < P ∧ m.testBit i = false ∧ F i = true ∧ m' = m ||| (1 <<< i)
theorem stp_zero {F : Nat → Bool} {m m' : Nat} : ¬ Stp F 0 m m' := fun ⟨_, h, _⟩ => by omega
theorem stp_no {F : Nat → Bool} {P m m' : Nat} (h : m.testBit P = true ∨ F P = false) : Stp F (P + 1) m m' ↔ Stp F P m m' := by
 constructor
 ·rintro ⟨i, h1, h2, h3, h4⟩
  refine ⟨i, ?_, h2, h3, h4⟩; rcases Nat.lt_or_ge i P with h' | h'
  ·exact h'
  ·obtain rfl : i = P := by omega
   rcases h with h | h
   ·rw [h] at h2; cases h2
   ·rw [h] at h3; cases h3
 ·rintro ⟨i, h1, h2⟩; exact ⟨i, by omega, h2⟩
theorem stp_yes {F : Nat → Bool} {P m m' : Nat} (h1 : m.testBit P = false) (h2 : F P = true) : Stp F (P + 1) m m' ↔ Stp F P m m' ∨ m' = m ||| (1 <<< P) := by
 constructor
 ·rintro ⟨i, a, b, c, d⟩
  rcases Nat.lt_or_ge i P with h' | h'
  ·exact .inl ⟨i, h', b, c, d⟩
  ·obtain rfl : i = P := by omega
   exact .inr d
 ·rintro (⟨i, a, b⟩ | rfl)
  ·exact ⟨i, by omega, b⟩
  ·exact ⟨P, by omega, h1, h2, rfl⟩
/-- What the next sets are, where those at which left is false are done. -/
def NxS (S : Nat → Prop) (F : Nat → Bool) (P : Nat) (left : Lit → Bool) (m' : Nat) : Prop := ∃ m, m < 64 ∧ S m ∧ left (litN m) = false ∧ Stp F P m m'
/-- .. in the middle of number m. -/
def NxM (S : Nat → Prop) (F : Nat → Bool) (P : Nat) (left : Lit → Bool) (m i m' : Nat) : Prop := NxS S F P left m' ∨ Stp F i m m'
theorem same_litN (a b : Nat) (ha : a < 64) : (litN a).sameKey (litN b) = decide (a = b) := by
 by_cases h : a = b
 ·subst h
  rw [WideAt.sameKey_self (show WideAt.IsKeyLit (litN a) from lawI.key (litN_key (by omega)))]; simp
 ·rw [Go.Maps.sameKey_ne (fun e => h (litN_inj e))]; simp [h]
theorem nxm_end {S : Nat → Prop} {F : Nat → Bool} {P m m' : Nat} {left : Lit → Bool} (hm : m < 64) (hS : S m) (hl : left (litN m) = true) :
  NxM S F P left m P m' ↔ NxS S F P (fun z => left z && !z.sameKey (litN m)) m' := by
 constructor
 ·rintro (⟨m2, a, b, c, d⟩ | h)
  ·exact ⟨m2, a, b, by show (left (litN m2) && _) = false; rw [c]; rfl, d⟩
  ·exact ⟨m, hm, hS, by show (left (litN m) && !(litN m).sameKey (litN m)) = false; rw [same_litN _ _ hm]; simp, h⟩
 ·rintro ⟨m2, a, b, c, d⟩
  replace c : (left (litN m2) && !(litN m2).sameKey (litN m)) = false := c
  rw [same_litN _ _ a] at c
  by_cases e : m2 = m
  ·subst e; exact .inr d
  ·simp [e] at c
   exact .inl ⟨m2, a, b, c, d⟩
theorem size_pos {w : World} {P : Program} {k b n : Nat} {R : Value → Option (DataW Value × List MemPlace)} {D : DataW Value} (h : w.ownsMap P k R b n D) (K : Maps.Keyed P k) : 0 < Maps.size D ↔ ∃ l, Maps.has D l = true := by
 obtain ⟨es, rfl, _, hk⟩ := h.entries K
 cases es with
 | nil => simp [Maps.size, Maps.has_eq]
 | cons p ps =>
  refine ⟨fun _ => ⟨p.1, ?_⟩, fun _ => by simp [Maps.size]⟩
  rw [Maps.has_eq, List.any_cons, WideAt.sameKey_self (hk p (by simp))]
  rfl
theorem rch_small {fits : Nat → Nat → Bool} {P m : Nat} {xs : List Nat} (hP : P ≤ 6) (h : Rch fits P xs m) : m < 64 := by
 obtain ⟨f, f1, _, f3⟩ := h
 refine Nat.lt_pow_two_of_testBit (n := 6) m fun i hi => ?_
 cases hb : m.testBit i with
 | false => rfl
 | true =>
  obtain ⟨a, ha, e⟩ := (f3 i).1 hb; have := (f1 a ha).1
  omega
def o35_12 : Array Go.Oper := #[
 ⟨some 33, .move (.tmp 11), 3, "scores.go:364", #[], none⟩,
 ⟨some 34, .move (.tmp 12), 3, "scores.go:364", #[], none⟩,
 ⟨some 35, .binOp .shr 3 (.tmp 33) (.tmp 34) 3, 3, "scores.go:364", #[⟨0, .data⟩, ⟨1, .data⟩], none⟩,
 ⟨some 36, .binOp .and 3 (.tmp 35) (.const (.int .i64 1)) 3, 3, "scores.go:364", #[⟨2, .data⟩], none⟩,
 ⟨some 37, .binOp .eql 3 (.tmp 36) (.const (.int .i64 0)) 3, 4, "scores.go:364", #[⟨3, .data⟩], none⟩,
 ⟨some 38, .move (.tmp 37), 4, "scores.go:364", #[⟨4, .data⟩], none⟩,
 ⟨some 39, .move (.tmp 0), 26, "scores.go:364", #[⟨5, .guard⟩], some (5, true)⟩,
 ⟨some 40, .move (.tmp 12), 3, "scores.go:364", #[⟨5, .guard⟩], some (5, true)⟩,
 ⟨some 41, .indexAddr 26 (.tmp 39) (.tmp 40), 0, "scores.go:364", #[⟨6, .data⟩, ⟨7, .data⟩, ⟨5, .guard⟩], some (5, true)⟩,
 ⟨some 42, .load 72 (.tmp 41), 72, "scores.go:364", #[⟨8, .data⟩, ⟨5, .guard⟩], some (5, true)⟩,
 ⟨some 43, .move (.tmp 1), 28, "scores.go:364", #[⟨5, .guard⟩], some (5, true)⟩,
 ⟨some 44, .move (.tmp 1), 28, "scores.go:364", #[⟨5, .guard⟩], some (5, true)⟩,
 ⟨some 45, .move (.tmp 9), 9, "scores.go:364", #[⟨5, .guard⟩], some (5, true)⟩,
 ⟨some 46, .call { callee := .value (.func 59), args := #[.tmp 44, .tmp 45], argTypes := #[28, 9] }, 3, "scores.go:364", #[⟨11, .data⟩, ⟨12, .data⟩, ⟨5, .chain⟩, ⟨5, .guard⟩], some (5, true)⟩,
 ⟨some 47, .indexAddr 28 (.tmp 43) (.tmp 46), 0, "scores.go:364", #[⟨10, .data⟩, ⟨13, .data⟩, ⟨5, .guard⟩], some (5, true)⟩,
 ⟨some 48, .load 77 (.tmp 47), 77, "scores.go:364", #[⟨14, .data⟩, ⟨5, .guard⟩], some (5, true)⟩,
 ⟨some 49, .call { callee := .value (.func 61), args := #[.tmp 42, .tmp 48], argTypes := #[72, 77] }, 4, "scores.go:364", #[⟨9, .data⟩, ⟨15, .data⟩, ⟨13, .chain⟩, ⟨5, .guard⟩], some (5, true)⟩,
 ⟨some 50, .pick (.tmp 38) (.tmp 49) (.const (.bool false)), 4, "scores.go:364", #[⟨5, .data⟩, ⟨16, .data⟩], none⟩]
theorem o35_12_0 : o35_12[0]? = some (⟨some 33, .move (.tmp 11), 3, "scores.go:364", #[], none⟩ : Go.Oper) := rfl
theorem o35_12_1 : o35_12[1]? = some (⟨some 34, .move (.tmp 12), 3, "scores.go:364", #[], none⟩ : Go.Oper) := rfl
theorem o35_12_2 : o35_12[2]? = some (⟨some 35, .binOp .shr 3 (.tmp 33) (.tmp 34) 3, 3, "scores.go:364", #[⟨0, .data⟩, ⟨1, .data⟩], none⟩ : Go.Oper) := rfl
theorem o35_12_3 : o35_12[3]? = some (⟨some 36, .binOp .and 3 (.tmp 35) (.const (.int .i64 1)) 3, 3, "scores.go:364", #[⟨2, .data⟩], none⟩ : Go.Oper) := rfl
theorem o35_12_4 : o35_12[4]? = some (⟨some 37, .binOp .eql 3 (.tmp 36) (.const (.int .i64 0)) 3, 4, "scores.go:364", #[⟨3, .data⟩], none⟩ : Go.Oper) := rfl
theorem o35_12_5 : o35_12[5]? = some (⟨some 38, .move (.tmp 37), 4, "scores.go:364", #[⟨4, .data⟩], none⟩ : Go.Oper) := rfl
theorem o35_12_6 : o35_12[6]? = some (⟨some 39, .move (.tmp 0), 26, "scores.go:364", #[⟨5, .guard⟩], some (5, true)⟩ : Go.Oper) := rfl
theorem o35_12_7 : o35_12[7]? = some (⟨some 40, .move (.tmp 12), 3, "scores.go:364", #[⟨5, .guard⟩], some (5, true)⟩ : Go.Oper) := rfl
theorem o35_12_8 : o35_12[8]? = some (⟨some 41, .indexAddr 26 (.tmp 39) (.tmp 40), 0, "scores.go:364", #[⟨6, .data⟩, ⟨7, .data⟩, ⟨5, .guard⟩], some (5, true)⟩ : Go.Oper) := rfl
theorem o35_12_9 : o35_12[9]? = some (⟨some 42, .load 72 (.tmp 41), 72, "scores.go:364", #[⟨8, .data⟩, ⟨5, .guard⟩], some (5, true)⟩ : Go.Oper) := rfl
theorem o35_12_10 : o35_12[10]? = some (⟨some 43, .move (.tmp 1), 28, "scores.go:364", #[⟨5, .guard⟩], some (5, true)⟩ : Go.Oper) := rfl
theorem o35_12_11 : o35_12[11]? = some (⟨some 44, .move (.tmp 1), 28, "scores.go:364", #[⟨5, .guard⟩], some (5, true)⟩ : Go.Oper) := rfl
theorem o35_12_12 : o35_12[12]? = some (⟨some 45, .move (.tmp 9), 9, "scores.go:364", #[⟨5, .guard⟩], some (5, true)⟩ : Go.Oper) := rfl
theorem o35_12_13 : o35_12[13]? = some (⟨some 46, .call { callee := .value (.func 59), args := #[.tmp 44, .tmp 45], argTypes := #[28, 9] }, 3, "scores.go:364", #[⟨11, .data⟩, ⟨12, .data⟩, ⟨5, .chain⟩, ⟨5, .guard⟩], some (5, true)⟩ : Go.Oper) := rfl
theorem o35_12_14 : o35_12[14]? = some (⟨some 47, .indexAddr 28 (.tmp 43) (.tmp 46), 0, "scores.go:364", #[⟨10, .data⟩, ⟨13, .data⟩, ⟨5, .guard⟩], some (5, true)⟩ : Go.Oper) := rfl
theorem o35_12_15 : o35_12[15]? = some (⟨some 48, .load 77 (.tmp 47), 77, "scores.go:364", #[⟨14, .data⟩, ⟨5, .guard⟩], some (5, true)⟩ : Go.Oper) := rfl
theorem o35_12_16 : o35_12[16]? = some (⟨some 49, .call { callee := .value (.func 61), args := #[.tmp 42, .tmp 48], argTypes := #[72, 77] }, 4, "scores.go:364", #[⟨9, .data⟩, ⟨15, .data⟩, ⟨13, .chain⟩, ⟨5, .guard⟩], some (5, true)⟩ : Go.Oper) := rfl
theorem o35_12_17 : o35_12[17]? = some (⟨some 50, .pick (.tmp 38) (.tmp 49) (.const (.bool false)), 4, "scores.go:364", #[⟨5, .data⟩, ⟨16, .data⟩], none⟩ : Go.Oper) := rfl
theorem o35_12_ns : Go.Region.noSelect o35_12 = true := by kernel_rfl
set_option maxRecDepth 100000 in
set_option maxHeartbeats 16000000 in
theorem canOf_calls (lo lo' lo3 : Nat) (u v z : Value) (ss : List SlD) (cs : List ScD) (ks : List ByteArray) (w : World) (hS : Sls w lo u ss) (hC : Scs w lo' v cs) (hK : Strs w lo3 z ks) (hsort : SortedK (cs.map ScD.who)) (h0 : 0 < ss.length) (hm : ss.length ≤ 6) (hkn : ks.length ≤ 7) (hcn : cs.length ≤ 1000) (hknown : ∀ b ∈ ks, knownB (cs.map ScD.who) b = true) :
  Calls Tryz.prog 35 #[u, v, z] w (BoolIs (canL cs ss ks ks.length) w) := by
 obtain ⟨la, lc, rfl⟩ := NRows.shape hC
 obtain ⟨sg, so, sk, rfl⟩ : ∃ sg so sk, u = .slice (some ⟨sg, so, none⟩) ss.length sk := by
  rcases NRows.at hS with ⟨_, rfl⟩ | ⟨g, off, cap, e, _⟩
  ·simp at h0
  ·exact ⟨g, off, cap, e⟩
 obtain ⟨ka, kc, rfl⟩ := strs_shape hK
 have HSl := Lib.hid (fun w' (hb : Below w.heap.size w w') => sls_fb (NRows.below hS hb))
 have HSc := Lib.hid (fun w' (hb : Below w.heap.size w w') => scs_fb (NRows.below hC hb))
 have CA := Lib.hid (fun (k : ByteArray) w' (hb : Below w.heap.size w w') => scorerAt_calls lo' _ cs k w' (NRows.below hC hb))
 have HK := Lib.hid hK
 have Hsort := Lib.hid hsort
 have Hkw := Lib.hid hknown
 clear hS hC hK hsort hknown
 have hmm := @run_makeMap Tryz.prog
 obtain ⟨w1, hput, hI1, hg1⟩ := (ISet.made w).put (by omega) 0 (by omega) (.bool true)
 have HI1 := Lib.hid hI1
 replace hput : (Instr.mapUpdate 124 (.map (some w.heap.size)) (.int .i64 0) (.bool true)).run Tryz.prog (w.alloc (.map #[] 0)) = .ok () w1 := hput
 have hb1 : Below w.heap.size w w1 := (below_alloc w _).grown hg1 (by simp) (fun r hr => by cases hr; exact Nat.le_refl _)
 clear hI1 hg1
 go_enter Tryz.func35, Tryz.ntmps35
 go_upto_region 2 with fail
 clear hput
 have HI2 := Lib.hid (show ISet w1 w.heap.size (6 ^ 0) (fun m => Rch (fitQ cs ss ks) ss.length (List.range 0) m) from HI1.out.congr fun m hm => ⟨fun h => by
  rcases h with h | rfl
  ·exact absurd h id
  ·exact rch_nil.2 rfl, fun h => .inr (rch_nil.1 h)⟩)
 clear HI1
 go_wp2_with fail
 go_loopw [7, 17] (fun mv idx wr => ∃ (k b : Nat), k ≤ ks.length ∧ idx = .int .i64 (k : Int) ∧ mv = .map (some b) ∧ w.heap.size ≤ b ∧ Hid (ISet wr b (6 ^ k) (fun m => Rch (fitQ cs ss ks) ss.length (List.range k) m)) ∧ Below w.heap.size w wr) (fun _ idx _ => ks.length - (intOf idx).toNat)
 case atStart => exact ⟨0, w.heap.size, Nat.zero_le _, rfl, rfl, Nat.le_refl _, HI2, hb1⟩
 case round =>
  clear HI2 hb1; obtain ⟨k, b, hk, rfl, rfl, hbw, HI, hb⟩ := hrel; by_cases hlt : k < ks.length
  ·have hlt' : (k : Int) < (ks.length : Int) := by omega
   have hks : ks[k]? = some ks[k] := List.getElem?_eq_getElem hlt
   generalize ks[k] = nm at hks
   obtain ⟨q, hq⟩ : ∃ q, cs[q]? = some (fndC cs nm) := by
    obtain ⟨c, hc, hw⟩ := known_mem (Hkw.out nm (List.mem_of_getElem? hks)); obtain ⟨q, hq⟩ := List.getElem?_of_mem hc; exact ⟨q, by rw [(fnd_at Hsort.out hq hw).2.2]; exact hq⟩
   have Hknm := Lib.hid (Hkw.out nm (List.mem_of_getElem? hks)); have Hq := Lib.hid hq; have HFi := Lib.hid (show ∀ i s, ss[i]? = some s → fitQ cs ss ks k i = fitB s (fndC cs nm) from fun i s hs => by unfold fitQ; rw [stAt_some hks, slAt_some hs, suit_fit])
   have c0 : wr.cell? ⟨0, 0, none⟩ = wr.cell? ⟨0, 0, none⟩ := rfl
   obtain ⟨kg, ko, he, hkc⟩ : ∃ kg ko, (Value.slice ka ks.length kc) = .slice (some ⟨kg, ko, none⟩) ks.length kc ∧ w.cell? ⟨kg, ko + k, none⟩ = some (.string nm) := by
    rcases strs_at HK.out with ⟨_, h⟩ | ⟨g, off, cap, e, _, _, _, hc⟩
    ·rw [h] at hlt; simp at hlt
    ·cases e; exact ⟨g, off, rfl, hc k nm hks⟩
   cases he
   have q0 := below_cell hb hkc; clear hkc hks c0 hq; obtain ⟨c, hc⟩ : ∃ c, fndC cs nm = c := ⟨_, rfl⟩
   have Hc := Lib.hid hc; rw [hc] at Hq HFi
   clear hc; generalize hF : fitQ cs ss ks k = F at HFi
   have HF := Lib.hid hF; clear hF; obtain ⟨D, hown, hD, hSD⟩ := HI.out; have Hown := Lib.hid hown; obtain ⟨SK, HSK⟩ : ∃ SK : Nat → Prop, Hid (∀ m, SK m ↔ Rch (fitQ cs ss ks) ss.length (List.range k) m) := ⟨_, Lib.hid fun m => Iff.rfl⟩
   have HSD := Lib.hid (show ∀ l, Maps.has D l = true ↔ ∃ m, m < 64 ∧ SK m ∧ l = litN m from fun l => (hSD l).trans ⟨fun ⟨m, a, s, e⟩ => ⟨m, a, (HSK.out m).2 s, e⟩, fun ⟨m, a, s, e⟩ => ⟨m, a, (HSK.out m).1 s, e⟩⟩)
   have Hsz := Lib.hid hown.size_le; have hbl := hown.lt; clear hown hSD HI; go_upto_region 6 with fail
   have hN := ISet.made wr; have hbn := below_alloc wr (.map #[] 0); have hownN := Hown.out.kept (gb_below hbn none) (by simp)
   have hsn : wr.heap.size < (wr.alloc (.map #[] 0)).heap.size := by simp
   replace hb := below_step hb hbn; have hwX : w.heap.size ≤ wr.heap.size := by omega
   have hbX : b ≠ wr.heap.size := by omega
   generalize wr.alloc (.map #[] 0) = Wn at hN hbn hownN hb hsn ⊢
   generalize wr.heap.size = X at hN hbl hsn hwX hbX ⊢
   clear hbn; go_wp2_with (first | (at_range; refine wpList_range_own _ rfl _ 124 rfl 3 4 lawI Tryz.underlying124 _ b _ _ rfl hownN ?_; intro w3 hrg3 hg3 hs3) | go_in)
   go_frame
   have hN3 := hN.kept hg3 (by simp)
   have hb3 : Below w.heap.size w w3 := hb.grown hg3 hb.size (by simp)
   have hXr : X ≠ Wn.heap.size := by omega
   have hwr : w.heap.size ≤ Wn.heap.size := by omega
   generalize Wn.heap.size = r at hrg3 hXr hwr ⊢
   clear hN hownN hb hg3 hs3 hsn q0; go_loopw [11] (fun _ w4 => ∃ (left : Lit → Bool) (cnt n' : Nat), Hid (w4.ranges Tryz.prog 3 heldR b r (6 ^ k) D left cnt) ∧ cnt ≤ Maps.size D ∧ Hid (ISet w4 X n' (NxS SK F ss.length left)) ∧ n' ≤ 6 * (Maps.size D - cnt) ∧ Below w.heap.size w w4) (fun _ w4 => w4.rangeLeft b r)
   case atStart =>
    refine ⟨_, _, 0, Lib.hid hrg3, Nat.le_refl _, Lib.hid (hN3.congr fun m' hm' => ⟨fun h => absurd h id, fun ⟨m, a, s, h, _⟩ => ?_⟩), Nat.zero_le _, hb3⟩
    rw [(HSD.out _).2 ⟨m, a, s, rfl⟩] at h; cases h
   case round =>
    clear hrg3 hN3 hb3; obtain ⟨left, cnt, n', Hrg, hcs, HN, hn', hb4⟩ := hrel; go_wp2_with (first | (at_next; refine wpList_next_ranges _ rfl _ rfl 3 lawI heldR (fun x : Int => Value.int .i64 x) (fun v : Value => v) ?iK ?iV b r _ D left cnt rfl Hrg.out ?_ ?_) | go_in)
    case iK => intro key kl h; obtain ⟨x, rfl, _⟩ := Maps.keyOf_int_inv Tryz.underlying3 h; exact ⟨x, rfl⟩
    case iV => intro v y h; exact ⟨v, rfl⟩
    ·intro hc0 hl0
     have HI' := Lib.hid (show ISet wr X (6 ^ (k + 1)) (fun m => Rch (fitQ cs ss ks) ss.length (List.range (k + 1)) m) from (HN.out.congr fun m' hm' => by
      rw [List.range_succ, rch_snoc (by simp)]
      constructor
      ·rintro ⟨m, a, s, _, i, e1, e2, e3, e4⟩
       exact ⟨m, i, (HSK.out m).1 s, e1, e2, by rw [HF.out]; exact e3, e4⟩
      ·rintro ⟨m, i, s, e1, e2, e3, e4⟩
       exact ⟨m, rch_small hm s, (HSK.out m).2 s, hl0 _, i, e1, e2, by rw [← HF.out]; exact e3, e4⟩).mono (by
      have := Hsz.out
      rw [Nat.pow_succ]; omega))
     clear Hrg HN; go_wp2_with fail
     go_roundw
     case rel => exact ⟨k + 1, X, by omega, by go_num, rfl, hwX, HI', hb4⟩
     case measure => simp [intOf]; omega
    ·intro x vv kl y ps w5 cnt5 hkey hlk hR hat hrg5 hlt5 hg5 hs5 hen
     have hh : Maps.has D kl = true := by
      cases h : Maps.has D kl with
      | true => rfl
      | false =>
       have h1 := hat (.map []); rw [Maps.atKey_of_not_has h] at h1
       cases hR
       cases h1
     obtain ⟨m, hm64, hSm, rfl⟩ := (HSD.out kl).1 hh
     obtain rfl : x = (m : Int) := by
      obtain ⟨x', ex, h2, _⟩ := Maps.keyOf_int_inv Tryz.underlying3 hkey; cases ex
      unfold litN at h2
      injection h2 with _ h2
      exact h2.symm
     have HN5 := Lib.hid (HN.out.kept hg5 (by intro e; cases e; exact hXr rfl))
     have hb5 : Below w.heap.size w w5 := hb4.grown hg5 hb4.size (fun r' e => by cases e; exact hwr)
     have Hrg5 := Lib.hid hrg5; have Hlk := Lib.hid hlk; have HSm := Lib.hid hSm; clear hkey hR hat hrg5 hg5 hs5 hh hlk hSm HN hb4; go_wp2_with fail
     clear hen; go_loopw [30] (fun idx w6 => ∃ (i n2 : Nat), i ≤ ss.length ∧ idx = .int .i64 (i : Int) ∧ Hid (w6.ranges Tryz.prog 3 heldR b r (6 ^ k) D (fun z => left z && !z.sameKey (litN m)) cnt5) ∧ Hid (ISet w6 X n2 (NxM SK F ss.length left m i)) ∧ n2 ≤ n' + i ∧ Below w.heap.size w w6) (fun idx _ => ss.length - (intOf idx).toNat)
     case atStart => exact ⟨0, n', Nat.zero_le _, rfl, Hrg5, Lib.hid (HN5.out.congr fun m' _ => ⟨fun h => .inl h, fun h => h.elim id fun h => absurd h stp_zero⟩), by omega, hb5⟩
     case round =>
      clear Hrg5 HN5 hb5; obtain ⟨i, n2, hi, rfl, Hrg6, HN6, hn2, hb6⟩ := hrel; by_cases hilt : i < ss.length
      ·have hilt' : (i : Int) < (ss.length : Int) := by omega
       have hs : ss[i]? = some ss[i] := List.getElem?_eq_getElem hilt
       generalize ss[i] = s at hs
       obtain ⟨sx, slo, p0, p1, hsp⟩ := HSl.out wr hb6 i s hs; obtain ⟨cg, co, cx, clo, hla, q0, q1, q2, q3, q4, hcp⟩ := HSc.out wr hb6 q c Hq.out; obtain ⟨pa, pl, pc, rfl⟩ := strs_shapeN hcp; obtain ⟨ra, rl, rc, rfl⟩ := strs_shapeN hsp; subst hla; have hql := (List.getElem?_eq_some_iff.1 Hq.out).1; have hql' : (q : Int) < (cs.length : Int) := by omega
       have HFs := HFi.out i s hs; have HS := Lib.hid (show ∀ w', Below wr.heap.size wr w' → (Below wr.heap.size wr w' ∧ w'.cell? ⟨sg, so + i * 2, none⟩ = some (.string s.key) ∧ w'.cell? ⟨sg, so + i * 2 + 1, none⟩ = some (.slice ra rl rc) ∧ w'.cell? ⟨cg, co + q * 5, none⟩ = some (.string c.who) ∧ w'.cell? ⟨cg, co + q * 5 + 1, none⟩ = some (.slice pa pl pc) ∧ w'.cell? ⟨cg, co + q * 5 + 2, none⟩ = some (.int .i64 c.num) ∧ w'.cell? ⟨cg, co + q * 5 + 3, none⟩ = some (.int .i64 c.den) ∧ w'.cell? ⟨cg, co + q * 5 + 4, none⟩ = some (.bool c.played)) from fun w' hb => ⟨hb, below_cell hb p0, below_cell hb p1, below_cell hb q0, below_cell hb q1, below_cell hb q2, below_cell hb q3, below_cell hb q4⟩)
       obtain ⟨sh, hsh⟩ : ∃ sh, sh = m >>> i := ⟨_, rfl⟩
       have Hsh := Lib.hid (show (m : Int) / 2 ^ i = (sh : Int) by rw [hsh, Nat.shiftRight_eq_div_pow]; push_cast; rfl)
       have hshu : sh < 64 := by rw [hsh, Nat.shiftRight_eq_div_pow]; exact Nat.lt_of_le_of_lt (Nat.div_le_self _ _) hm64
       obtain ⟨an, han⟩ : ∃ an, an = sh &&& 1 := ⟨_, rfl⟩
       have Hbt := Lib.hid (show an = 1 ↔ m.testBit i = true by rw [han, hsh]; exact bit_test m i)
       have Han := Lib.hid (show bits .and .i64 (sh : Int) 1 = (an : Int) by rw [han]; exact bits_and64 sh 1 hshu (by omega))
       have han1 : an ≤ 1 := by rw [han]; exact Nat.and_le_right
       have hb0 := (Below.refl wr.heap.size wr).drew; clear hsh han hshu p0 p1 q0 q1 q2 q3 q4 hs; go_upto_region 12 with fail
       cases hbit : m.testBit i
       ·have hai : ((an : Int) == 0) = true := by
         have : ¬ an = 1 := fun h => by have := Hbt.out.1 h; rw [hbit] at this; cases this
         simp; omega
        have Hbit := Lib.hid hbit; clear Hbt hbit han1; cases hfit : fitB s c
        ·show Code.wp _ (Code.region 12 o35_12 true) _ _ _
         refine region_start 18 (fun w' => Below wr.heap.size wr w' ∧ w'.cell? ⟨sg, so + i * 2, none⟩ = some (.string s.key) ∧ w'.cell? ⟨sg, so + i * 2 + 1, none⟩ = some (.slice ra rl rc) ∧ w'.cell? ⟨cg, co + q * 5, none⟩ = some (.string c.who) ∧ w'.cell? ⟨cg, co + q * 5 + 1, none⟩ = some (.slice pa pl pc) ∧ w'.cell? ⟨cg, co + q * 5 + 2, none⟩ = some (.int .i64 c.num) ∧ w'.cell? ⟨cg, co + q * 5 + 3, none⟩ = some (.int .i64 c.den) ∧ w'.cell? ⟨cg, co + q * 5 + 4, none⟩ = some (.bool c.played)) (by kernel_rfl) rfl ?_ (fun hHeld => ?_)
         ·(exact HS.out _ (by first | assumption | exact hHeld.1 | exact below_step hHeld.1 (by assumption)))
         refine take_to 0 33 (bQ 18 1) (v := ?_) o35_12_0 rfl o35_12_ns (by kernel_rfl) (by kernel_rfl) (fun _ _ _ h => h) (by rfl) ?y0b (by assumption) ?_
         case y0b => intro w h; (try dsimp only at h); go_simp; try with_reducible rfl
         simp only [sE0, sE1]; refine take_to 1 34 (bQ 18 3) (v := ?_) o35_12_1 rfl o35_12_ns (by kernel_rfl) (by kernel_rfl) (fun _ _ _ h => h) (by rfl) ?y1b (by assumption) ?_
         case y1b => intro w h; (try dsimp only at h); go_simp; try with_reducible rfl
         simp only [sE0, sE1]; refine take_to 2 35 (bQ 18 7) (v := .int .i64 (sh : Int)) o35_12_2 rfl o35_12_ns (by kernel_rfl) (by kernel_rfl) (fun _ _ _ h => h) (by rfl) ?y2b (by assumption) ?_
         case y2b =>
          intro w hSw; try dsimp only at hSw
          go_simp; exact Hsh.out
         simp only [sE0, sE1]; refine take_to 3 36 (bQ 18 15) (v := .int .i64 (an : Int)) o35_12_3 rfl o35_12_ns (by kernel_rfl) (by kernel_rfl) (fun _ _ _ h => h) (by rfl) ?y3b (by assumption) ?_
         case y3b =>
          intro w hSw; try dsimp only at hSw
          go_simp; exact Han.out
         simp only [sE0, sE1]; refine take_to 4 37 (bQ 18 31) (v := .bool true) o35_12_4 rfl o35_12_ns (by kernel_rfl) (by kernel_rfl) (fun _ _ _ h => h) (by rfl) ?y4b (by assumption) ?_
         case y4b =>
          intro w hSw; try dsimp only at hSw
          go_simp
         simp only [sE0, sE1]; refine take_to 5 38 (bQ 18 63) (v := ?_) o35_12_5 rfl o35_12_ns (by kernel_rfl) (by kernel_rfl) (fun _ _ _ h => h) (by rfl) ?y5b (by assumption) ?_
         case y5b => intro w h; (try dsimp only at h); go_simp; try with_reducible rfl
         simp only [sE0, sE1]; refine take_to 6 39 (bQ 18 127) (v := ?_) o35_12_6 rfl o35_12_ns (by kernel_rfl) (by kernel_rfl) (fun _ _ _ h => h) (by rfl) ?y6b (by assumption) ?_
         case y6b => intro w h; (try dsimp only at h); go_simp; try with_reducible rfl
         simp only [sE0, sE1]; refine take_to 7 40 (bQ 18 255) (v := ?_) o35_12_7 rfl o35_12_ns (by kernel_rfl) (by kernel_rfl) (fun _ _ _ h => h) (by rfl) ?y7b (by assumption) ?_
         case y7b => intro w h; (try dsimp only at h); go_simp; try with_reducible rfl
         simp only [sE0, sE1]; refine take_to 8 41 (bQ 18 511) (v := ?_) o35_12_8 rfl o35_12_ns (by kernel_rfl) (by kernel_rfl) (fun _ _ _ h => h) (by rfl) ?y8b (by assumption) ?_
         case y8b => intro w h; (try dsimp only at h); go_simp; try with_reducible rfl
         simp only [sE0, sE1]; refine take_to 9 42 (bQ 18 1023) (v := ?_) o35_12_9 rfl o35_12_ns (by kernel_rfl) (by kernel_rfl) (fun _ _ _ h => h) (by rfl) ?y9b (by assumption) ?_
         case y9b => intro w h; (try dsimp only at h); go_simp; try with_reducible rfl
         simp only [sE0, sE1]; refine take_to 10 43 (bQ 18 2047) (v := ?_) o35_12_10 rfl o35_12_ns (by kernel_rfl) (by kernel_rfl) (fun _ _ _ h => h) (by rfl) ?y10b (by assumption) ?_
         case y10b => intro w h; (try dsimp only at h); go_simp; try with_reducible rfl
         simp only [sE0, sE1]; refine take_to 11 44 (bQ 18 4095) (v := ?_) o35_12_11 rfl o35_12_ns (by kernel_rfl) (by kernel_rfl) (fun _ _ _ h => h) (by rfl) ?y11b (by assumption) ?_
         case y11b => intro w h; (try dsimp only at h); go_simp; try with_reducible rfl
         simp only [sE0, sE1]; refine take_to 12 45 (bQ 18 8191) (v := ?_) o35_12_12 rfl o35_12_ns (by kernel_rfl) (by kernel_rfl) (fun _ _ _ h => h) (by rfl) ?y12b (by assumption) ?_
         case y12b => intro w h; (try dsimp only at h); go_simp; try with_reducible rfl
         simp only [sE0, sE1]; refine run_to 13 (bQ 18 16383) o35_12_13 (by kernel_rfl) (by kernel_rfl) (by rfl) (fun K hK => ?_)
         go_simp; refine (CA.out nm _ (hb6.trans (hHeld.1.mono hb6.size))).mono ?_; rintro e w7 hat7; have hb7 := hat7.2; obtain ⟨kv, rfl, hkv⟩ := at_of Hsort.out hat7
         obtain rfl : kv = (q : Int) := by
          rcases hkv with ⟨_, h⟩ | ⟨q', rfl, hq', _⟩
          ·rw [Hknm.out] at h; cases h
          ·rw [Hc.out] at hq'; rw [uniq_at Hsort.out Hq.out hq']
         clear hat7 hkv; go_wp2_with fail
         refine hK.out _ _ ?_ (fun hHeld => ?_)
         ·(exact HS.out _ (by first | assumption | exact hHeld.1 | exact below_step hHeld.1 (by assumption)))
         clear hK K; try simp only [Act.put, sEt, sE0, sE1]
         refine take_to 14 47 (bQ 18 32767) (v := ?_) o35_12_14 rfl o35_12_ns (by kernel_rfl) (by kernel_rfl) (fun _ _ _ h => h) (by rfl) ?y14b (by assumption) ?_
         case y14b => intro w h; (try dsimp only at h); go_simp; try with_reducible rfl
         simp only [sE0, sE1]; refine take_to 15 48 (bQ 18 65535) (v := ?_) o35_12_15 rfl o35_12_ns (by kernel_rfl) (by kernel_rfl) (fun _ _ _ h => h) (by rfl) ?y15b (by assumption) ?_
         case y15b => intro w h; (try dsimp only at h); go_simp; try with_reducible rfl
         simp only [sE0, sE1]; refine run_to 16 (bQ 18 131071) o35_12_16 (by kernel_rfl) (by kernel_rfl) (by rfl) (fun K hK => ?_)
         go_simp; refine (fit_calls _ _ _ _ c s _ (hcp.below hHeld.1) (hsp.below hHeld.1)).mono ?_; rintro e w8 ⟨rfl, hb8⟩; go_wp2_with fail
         refine hK.out _ _ ?_ (fun hHeld => ?_)
         ·(exact HS.out _ (by first | assumption | exact hHeld.1 | exact below_step hHeld.1 (by assumption)))
         clear hK K; try simp only [Act.put, sEt, sE0, sE1]
         refine take_to 17 50 (bQ 18 262143) (v := ?_) o35_12_17 rfl o35_12_ns (by kernel_rfl) (by kernel_rfl) (fun _ _ _ h => h) (by rfl) ?y17b (by assumption) ?_
         case y17b => intro w h; (try dsimp only at h); go_simp; try with_reducible rfl
         simp only [sE0, sE1]; refine wpAnyH_done (by kernel_rfl) ?_ _
         have hbz := hHeld.1; have Hrg7 := Lib.hid (Hrg6.out.kept (gb_below hbz none) (by simp) (by simp))
         have hb9 := hb6.trans (hbz.mono hb6.size); have Hx := Lib.hid ((HN6.out.congr fun m' _ => (show NxM SK F ss.length left m i m' ↔ NxM SK F ss.length left m (i + 1) m' from or_congr Iff.rfl (stp_no (.inr (by rw [HFs, hfit]))).symm)).below hbz)
         clear hHeld HS Hrg6 HN6 HFs; go_wp2_with fail
         go_roundw
         case rel => exact ⟨i + 1, n2, by omega, by go_num, Hrg7, Hx, by omega, hb9⟩
         case measure => simp [intOf]; omega
        ·show Code.wp _ (Code.region 12 o35_12 true) _ _ _
         refine region_start 18 (fun w' => Below wr.heap.size wr w' ∧ w'.cell? ⟨sg, so + i * 2, none⟩ = some (.string s.key) ∧ w'.cell? ⟨sg, so + i * 2 + 1, none⟩ = some (.slice ra rl rc) ∧ w'.cell? ⟨cg, co + q * 5, none⟩ = some (.string c.who) ∧ w'.cell? ⟨cg, co + q * 5 + 1, none⟩ = some (.slice pa pl pc) ∧ w'.cell? ⟨cg, co + q * 5 + 2, none⟩ = some (.int .i64 c.num) ∧ w'.cell? ⟨cg, co + q * 5 + 3, none⟩ = some (.int .i64 c.den) ∧ w'.cell? ⟨cg, co + q * 5 + 4, none⟩ = some (.bool c.played)) (by kernel_rfl) rfl ?_ (fun hHeld => ?_)
         ·(exact HS.out _ (by first | assumption | exact hHeld.1 | exact below_step hHeld.1 (by assumption)))
         refine take_to 0 33 (bQ 18 1) (v := ?_) o35_12_0 rfl o35_12_ns (by kernel_rfl) (by kernel_rfl) (fun _ _ _ h => h) (by rfl) ?y0c (by assumption) ?_
         case y0c => intro w h; (try dsimp only at h); go_simp; try with_reducible rfl
         simp only [sE0, sE1]; refine take_to 1 34 (bQ 18 3) (v := ?_) o35_12_1 rfl o35_12_ns (by kernel_rfl) (by kernel_rfl) (fun _ _ _ h => h) (by rfl) ?y1c (by assumption) ?_
         case y1c => intro w h; (try dsimp only at h); go_simp; try with_reducible rfl
         simp only [sE0, sE1]; refine take_to 2 35 (bQ 18 7) (v := .int .i64 (sh : Int)) o35_12_2 rfl o35_12_ns (by kernel_rfl) (by kernel_rfl) (fun _ _ _ h => h) (by rfl) ?y2c (by assumption) ?_
         case y2c =>
          intro w hSw; try dsimp only at hSw
          go_simp; exact Hsh.out
         simp only [sE0, sE1]; refine take_to 3 36 (bQ 18 15) (v := .int .i64 (an : Int)) o35_12_3 rfl o35_12_ns (by kernel_rfl) (by kernel_rfl) (fun _ _ _ h => h) (by rfl) ?y3c (by assumption) ?_
         case y3c =>
          intro w hSw; try dsimp only at hSw
          go_simp; exact Han.out
         simp only [sE0, sE1]; refine take_to 4 37 (bQ 18 31) (v := .bool true) o35_12_4 rfl o35_12_ns (by kernel_rfl) (by kernel_rfl) (fun _ _ _ h => h) (by rfl) ?y4c (by assumption) ?_
         case y4c =>
          intro w hSw; try dsimp only at hSw
          go_simp
         simp only [sE0, sE1]; refine take_to 5 38 (bQ 18 63) (v := ?_) o35_12_5 rfl o35_12_ns (by kernel_rfl) (by kernel_rfl) (fun _ _ _ h => h) (by rfl) ?y5c (by assumption) ?_
         case y5c => intro w h; (try dsimp only at h); go_simp; try with_reducible rfl
         simp only [sE0, sE1]; refine take_to 6 39 (bQ 18 127) (v := ?_) o35_12_6 rfl o35_12_ns (by kernel_rfl) (by kernel_rfl) (fun _ _ _ h => h) (by rfl) ?y6c (by assumption) ?_
         case y6c => intro w h; (try dsimp only at h); go_simp; try with_reducible rfl
         simp only [sE0, sE1]; refine take_to 7 40 (bQ 18 255) (v := ?_) o35_12_7 rfl o35_12_ns (by kernel_rfl) (by kernel_rfl) (fun _ _ _ h => h) (by rfl) ?y7c (by assumption) ?_
         case y7c => intro w h; (try dsimp only at h); go_simp; try with_reducible rfl
         simp only [sE0, sE1]; refine take_to 8 41 (bQ 18 511) (v := ?_) o35_12_8 rfl o35_12_ns (by kernel_rfl) (by kernel_rfl) (fun _ _ _ h => h) (by rfl) ?y8c (by assumption) ?_
         case y8c => intro w h; (try dsimp only at h); go_simp; try with_reducible rfl
         simp only [sE0, sE1]; refine take_to 9 42 (bQ 18 1023) (v := ?_) o35_12_9 rfl o35_12_ns (by kernel_rfl) (by kernel_rfl) (fun _ _ _ h => h) (by rfl) ?y9c (by assumption) ?_
         case y9c => intro w h; (try dsimp only at h); go_simp; try with_reducible rfl
         simp only [sE0, sE1]; refine take_to 10 43 (bQ 18 2047) (v := ?_) o35_12_10 rfl o35_12_ns (by kernel_rfl) (by kernel_rfl) (fun _ _ _ h => h) (by rfl) ?y10c (by assumption) ?_
         case y10c => intro w h; (try dsimp only at h); go_simp; try with_reducible rfl
         simp only [sE0, sE1]; refine take_to 11 44 (bQ 18 4095) (v := ?_) o35_12_11 rfl o35_12_ns (by kernel_rfl) (by kernel_rfl) (fun _ _ _ h => h) (by rfl) ?y11c (by assumption) ?_
         case y11c => intro w h; (try dsimp only at h); go_simp; try with_reducible rfl
         simp only [sE0, sE1]; refine take_to 12 45 (bQ 18 8191) (v := ?_) o35_12_12 rfl o35_12_ns (by kernel_rfl) (by kernel_rfl) (fun _ _ _ h => h) (by rfl) ?y12c (by assumption) ?_
         case y12c => intro w h; (try dsimp only at h); go_simp; try with_reducible rfl
         simp only [sE0, sE1]; refine run_to 13 (bQ 18 16383) o35_12_13 (by kernel_rfl) (by kernel_rfl) (by rfl) (fun K hK => ?_)
         go_simp; refine (CA.out nm _ (hb6.trans (hHeld.1.mono hb6.size))).mono ?_; rintro e w7 hat7; have hb7 := hat7.2; obtain ⟨kv, rfl, hkv⟩ := at_of Hsort.out hat7
         obtain rfl : kv = (q : Int) := by
          rcases hkv with ⟨_, h⟩ | ⟨q', rfl, hq', _⟩
          ·rw [Hknm.out] at h; cases h
          ·rw [Hc.out] at hq'; rw [uniq_at Hsort.out Hq.out hq']
         clear hat7 hkv; go_wp2_with fail
         refine hK.out _ _ ?_ (fun hHeld => ?_)
         ·(exact HS.out _ (by first | assumption | exact hHeld.1 | exact below_step hHeld.1 (by assumption)))
         clear hK K; try simp only [Act.put, sEt, sE0, sE1]
         refine take_to 14 47 (bQ 18 32767) (v := ?_) o35_12_14 rfl o35_12_ns (by kernel_rfl) (by kernel_rfl) (fun _ _ _ h => h) (by rfl) ?y14c (by assumption) ?_
         case y14c => intro w h; (try dsimp only at h); go_simp; try with_reducible rfl
         simp only [sE0, sE1]; refine take_to 15 48 (bQ 18 65535) (v := ?_) o35_12_15 rfl o35_12_ns (by kernel_rfl) (by kernel_rfl) (fun _ _ _ h => h) (by rfl) ?y15c (by assumption) ?_
         case y15c => intro w h; (try dsimp only at h); go_simp; try with_reducible rfl
         simp only [sE0, sE1]; refine run_to 16 (bQ 18 131071) o35_12_16 (by kernel_rfl) (by kernel_rfl) (by rfl) (fun K hK => ?_)
         go_simp; refine (fit_calls _ _ _ _ c s _ (hcp.below hHeld.1) (hsp.below hHeld.1)).mono ?_; rintro e w8 ⟨rfl, hb8⟩; go_wp2_with fail
         refine hK.out _ _ ?_ (fun hHeld => ?_)
         ·(exact HS.out _ (by first | assumption | exact hHeld.1 | exact below_step hHeld.1 (by assumption)))
         clear hK K; try simp only [Act.put, sEt, sE0, sE1]
         refine take_to 17 50 (bQ 18 262143) (v := ?_) o35_12_17 rfl o35_12_ns (by kernel_rfl) (by kernel_rfl) (fun _ _ _ h => h) (by rfl) ?y17c (by assumption) ?_
         case y17c => intro w h; (try dsimp only at h); go_simp; try with_reducible rfl
         simp only [sE0, sE1]; refine wpAnyH_done (by kernel_rfl) ?_ _
         have hbz := hHeld.1; have Hrg7 := Lib.hid (Hrg6.out.kept (gb_below hbz none) (by simp) (by simp))
         have hb9 := hb6.trans (hbz.mono hb6.size); have HN8 := HN6.out.below hbz; clear hHeld HS Hrg6 HN6
         have hsl : 1 <<< i < 64 := by
          rw [Nat.one_shiftLeft]; exact (Nat.pow_lt_pow_right (a := 2) (by omega) (show i < 6 by omega) : 2 ^ i < 2 ^ 6)
         obtain ⟨sl, hsl'⟩ : ∃ sl, sl = 1 <<< i := ⟨_, rfl⟩
         have e1 : IntKind.i64.wrap ((2 : Int) ^ i) = (sl : Int) := by
          have h : (2 : Int) ^ i = (sl : Int) := by rw [hsl']; have h := shl_one i; simpa using h
          exact (congrArg IntKind.i64.wrap h).trans (wrap_nat sl (by rw [hsl']; exact hsl))
         obtain ⟨m2, hm2⟩ : ∃ m2, m2 = m ||| sl := ⟨_, rfl⟩
         have e2 : bits .or .i64 (m : Int) (sl : Int) = (m2 : Int) := by rw [hm2]; exact bits_or64 m sl hm64 (by rw [hsl']; exact hsl)
         have hm2l : m2 < 64 := by rw [hm2, hsl']; exact Nat.or_lt_two_pow (n := 6) hm64 hsl
         have hpw : 6 ^ k ≤ 6 ^ 6 := Nat.pow_le_pow_right (by omega) (by omega)
         have hszD := Hsz.out; obtain ⟨w9, hput, hI9, hg9⟩ := HN8.put (by omega) m2 hm2l (.bool true)
         have Hrg9 := Lib.hid (Hrg7.out.kept hg9 (by intro e; cases e; exact hbX rfl) (by intro e; cases e; exact hXr rfl))
         have hbw9 : Below w.heap.size w w9 := hb9.grown hg9 hb9.size (fun r' e => by cases e; exact hwX)
         have Hx := Lib.hid (hI9.congr fun m' _ => (show (NxM SK F ss.length left m i m' ∨ m' = m2) ↔ NxM SK F ss.length left m (i + 1) m' by
          unfold NxM; rw [stp_yes Hbit.out (by rw [HFs, hfit]), or_assoc, hm2, hsl']))
         clear hm2 hsl' hsl hm2l hpw hszD hI9 hg9 HN8 hb9 hbz Hrg7 HFs hfit; go_wp2_with fail
         go_roundw
         case rel => exact ⟨i + 1, n2 + 1, by omega, by go_num, Hrg9, Hx, by omega, hbw9⟩
         case measure => simp [intOf]; omega
       ·have hai : ((an : Int) == 0) = false := by have := Hbt.out.2 hbit; simp; omega
        have Hx := Lib.hid (HN6.out.congr fun m' _ => (show NxM SK F ss.length left m i m' ↔ NxM SK F ss.length left m (i + 1) m' from or_congr Iff.rfl (stp_no (.inl hbit)).symm))
        clear hbit Hbt han1 HN6; show Code.wp _ (Code.region 12 o35_12 true) _ _ _
        refine region_start 18 (fun w' => True) (by kernel_rfl) rfl ?_ (fun hHeld => ?_)
        ·(trivial)
        refine take_to 0 33 (bQ 18 1) (v := ?_) o35_12_0 rfl o35_12_ns (by kernel_rfl) (by kernel_rfl) (fun _ _ _ h => h) (by rfl) ?y0a (by assumption) ?_
        case y0a => intro w h; (try dsimp only at h); go_simp; try with_reducible rfl
        simp only [sE0, sE1]; refine take_to 1 34 (bQ 18 3) (v := ?_) o35_12_1 rfl o35_12_ns (by kernel_rfl) (by kernel_rfl) (fun _ _ _ h => h) (by rfl) ?y1a (by assumption) ?_
        case y1a => intro w h; (try dsimp only at h); go_simp; try with_reducible rfl
        simp only [sE0, sE1]; refine take_to 2 35 (bQ 18 7) (v := .int .i64 (sh : Int)) o35_12_2 rfl o35_12_ns (by kernel_rfl) (by kernel_rfl) (fun _ _ _ h => h) (by rfl) ?y2a (by assumption) ?_
        case y2a =>
         intro w hSw; try dsimp only at hSw
         go_simp; exact Hsh.out
        simp only [sE0, sE1]; refine take_to 3 36 (bQ 18 15) (v := .int .i64 (an : Int)) o35_12_3 rfl o35_12_ns (by kernel_rfl) (by kernel_rfl) (fun _ _ _ h => h) (by rfl) ?y3a (by assumption) ?_
        case y3a =>
         intro w hSw; try dsimp only at hSw
         go_simp; exact Han.out
        simp only [sE0, sE1]; refine take_to 4 37 (bQ 18 31) (v := .bool false) o35_12_4 rfl o35_12_ns (by kernel_rfl) (by kernel_rfl) (fun _ _ _ h => h) (by rfl) ?y4a (by assumption) ?_
        case y4a =>
         intro w hSw; try dsimp only at hSw
         go_simp
        simp only [sE0, sE1]; refine take_to 5 38 (bQ 18 63) (v := ?_) o35_12_5 rfl o35_12_ns (by kernel_rfl) (by kernel_rfl) (fun _ _ _ h => h) (by rfl) ?y5a (by assumption) ?_
        case y5a => intro w h; (try dsimp only at h); go_simp; try with_reducible rfl
        simp only [sE0, sE1]; refine skip_to 6 39 (bQ 18 127) o35_12_6 rfl o35_12_ns (by kernel_rfl) (by kernel_rfl) (fun _ _ _ h => h) (by rfl) (by assumption) ?_
        simp only [sE0, sE1]; refine skip_to 7 40 (bQ 18 255) o35_12_7 rfl o35_12_ns (by kernel_rfl) (by kernel_rfl) (fun _ _ _ h => h) (by rfl) (by assumption) ?_
        simp only [sE0, sE1]; refine skip_to 8 41 (bQ 18 511) o35_12_8 rfl o35_12_ns (by kernel_rfl) (by kernel_rfl) (fun _ _ _ h => h) (by rfl) (by assumption) ?_
        simp only [sE0, sE1]; refine skip_to 9 42 (bQ 18 1023) o35_12_9 rfl o35_12_ns (by kernel_rfl) (by kernel_rfl) (fun _ _ _ h => h) (by rfl) (by assumption) ?_
        simp only [sE0, sE1]; refine skip_to 10 43 (bQ 18 2047) o35_12_10 rfl o35_12_ns (by kernel_rfl) (by kernel_rfl) (fun _ _ _ h => h) (by rfl) (by assumption) ?_
        simp only [sE0, sE1]; refine skip_to 11 44 (bQ 18 4095) o35_12_11 rfl o35_12_ns (by kernel_rfl) (by kernel_rfl) (fun _ _ _ h => h) (by rfl) (by assumption) ?_
        simp only [sE0, sE1]; refine skip_to 12 45 (bQ 18 8191) o35_12_12 rfl o35_12_ns (by kernel_rfl) (by kernel_rfl) (fun _ _ _ h => h) (by rfl) (by assumption) ?_
        simp only [sE0, sE1]; refine skip_to 13 46 (bQ 18 16383) o35_12_13 rfl o35_12_ns (by kernel_rfl) (by kernel_rfl) (fun _ _ _ h => h) (by rfl) (by assumption) ?_
        simp only [sE0, sE1]; refine skip_to 14 47 (bQ 18 32767) o35_12_14 rfl o35_12_ns (by kernel_rfl) (by kernel_rfl) (fun _ _ _ h => h) (by rfl) (by assumption) ?_
        simp only [sE0, sE1]; refine skip_to 15 48 (bQ 18 65535) o35_12_15 rfl o35_12_ns (by kernel_rfl) (by kernel_rfl) (fun _ _ _ h => h) (by rfl) (by assumption) ?_
        simp only [sE0, sE1]; refine skip_to 16 49 (bQ 18 131071) o35_12_16 rfl o35_12_ns (by kernel_rfl) (by kernel_rfl) (fun _ _ _ h => h) (by rfl) (by assumption) ?_
        simp only [sE0, sE1]; refine take_to 17 50 (bQ 18 262143) (v := ?_) o35_12_17 rfl o35_12_ns (by kernel_rfl) (by kernel_rfl) (fun _ _ _ h => h) (by rfl) ?y17a (by assumption) ?_
        case y17a => intro w h; (try dsimp only at h); go_simp; try with_reducible rfl
        simp only [sE0, sE1]; refine wpAnyH_done (by kernel_rfl) ?_ _
        have hbz := hb0; have Hrg7 := Lib.hid (Hrg6.out.kept (gb_below hbz none) (by simp) (by simp))
        have hb9 := hb6.trans (hbz.mono hb6.size); replace Hx := Lib.hid (Hx.out.below hbz); clear hHeld HS Hrg6; go_wp2_with fail
        go_roundw
        case rel => exact ⟨i + 1, n2, by omega, by go_num, Hrg7, Hx, by omega, hb9⟩
        case measure => simp [intOf]; omega
      ·obtain rfl : i = ss.length := by omega
       have HE := Lib.hid (HN6.out.congr fun m' _ => nxm_end hm64 HSm.out Hlk.out)
       clear HN6; go_wp2_with fail
       go_roundw
       case rel => exact ⟨_, cnt5, n2, Hrg6, by omega, HE, by omega, hb6⟩
       case measure => rw [Hrg6.out.left_eq, Hrg.out.left_eq]; exact hlt5
  ·obtain rfl : k = ks.length := by omega
   obtain ⟨D, hown, hD, hSD⟩ := HI.out
   have hR : canL cs ss ks ks.length = decide (0 < Maps.size D) := by
    rw [Bool.eq_iff_iff, decide_eq_true_eq, size_pos hown lawI]; unfold canL; rw [canP_iff, ← rch_fit]; constructor
    ·rintro ⟨m, hR⟩
     have hr := hR.perm (ys := List.range ks.length) (fun x => by simp)
     exact ⟨litN m, (hSD _).2 ⟨m, rch_small hm hr, hr, rfl⟩⟩
    ·rintro ⟨l, hl⟩
     obtain ⟨m, _, hr, _⟩ := (hSD l).1 hl; exact ⟨m, hr.perm (ys := (List.range ks.length).reverse) (fun x => by simp)⟩
   have HR := Lib.hid hR; clear hR hSD HI; go_wp2_with (first | (at_len; refine wpList_len_own _ rfl _ 124 rfl 3 4 Tryz.underlying124 _ b _ D rfl hown ?_) | go_in)
   go_ret
   exact ⟨ret_bool (by rw [HR.out]), hb⟩
end Go.Proofs.YtfcaokpadodijaaGreat
/- The reference's LackingOf: which slots a set has, in order. -/
namespace Go.Proofs.YtfcaokpadodijaaGreat
open Go.RowKit Go.Proofs.YtfcaokpadodijaaGreat.Mat

def bitsL (P m : Nat) : List Nat := (List.range P).map fun i => (m >>> i) &&& 1
theorem bitsL_succ (P m : Nat) : bitsL (P + 1) m = bitsL P m ++ [(m >>> P) &&& 1] := by
 unfold bitsL
 rw [List.range_succ, List.map_append]
 rfl
theorem bitsL_len (P m : Nat) : (bitsL P m).length = P := by unfold bitsL; simp
set_option maxRecDepth 100000 in
set_option maxHeartbeats 4000000 in
theorem filled_calls (P X m sk : Nat) (sa : Option Addr) (w : World) (hX : w.cell? ⟨X, 0, none⟩ = some (.slice sa P sk)) (hP : P ≤ 6) (hm : m < 64) :
  Calls Tryz.prog 83 #[.int .i64 (m : Int), .pointer (some ⟨X, 0, none⟩)] w fun e w' => ∃ v, e = .returned v ∧ Nums w' w.heap.size v (bitsL P m) ∧ Below w.heap.size w w' := by
 obtain ⟨i0, hi0, hz0, hz1, hz2⟩ := info_parts info_int1
 have HI := Lib.hid hi0
 clear hi0
 go_enter Tryz.func83, Tryz.ntmps83
 go_wp2_with fail
 go_loopw [4, 8] (fun ov idx wr => ∃ i : Nat, i ≤ P ∧ idx = .int .i64 (i : Int) ∧ Hid (wr.ownsRow w.heap.size 3 1 ov (bitsL i m).length ((bitsL i m).map fun x : Nat => .int .i64 (x : Int))) ∧ Below w.heap.size w wr) (fun _ idx _ => P - (intOf idx).toNat)
 case atStart => exact ⟨0, Nat.zero_le _, rfl, Lib.hid (by simpa [bitsL] using World.ownsRow_nil _ _ _ _), Below.refl _ _⟩
 case round =>
  obtain ⟨i, hi, rfl, Hown, hb⟩ := hrel; by_cases hlt : i < P
  ·have hlt' : (i : Int) < (P : Int) := by omega
   obtain ⟨sh, hsh⟩ : ∃ sh, sh = m >>> i := ⟨_, rfl⟩
   have e1 : (m : Int) / 2 ^ i = (sh : Int) := by rw [hsh, Nat.shiftRight_eq_div_pow]; push_cast; rfl
   have hshu : sh < 64 := by rw [hsh, Nat.shiftRight_eq_div_pow]; exact Nat.lt_of_le_of_lt (Nat.div_le_self _ _) hm
   obtain ⟨an, han⟩ : ∃ an, an = sh &&& 1 := ⟨_, rfl⟩
   have e2 : bits .and .i64 (sh : Int) 1 = (an : Int) := by rw [han]; exact bits_and64 sh 1 hshu (by omega)
   have Hs := Lib.hid (show bitsL (i + 1) m = bitsL i m ++ [an] by rw [bitsL_succ, han, hsh])
   have hl := bitsL_len i m; have hi1 := HI.out; have hsz := hb.size; clear hsh han hshu; go_wp2_with (at_builtin; refine wpList_append_own _ rfl _ _ 22 rfl w.heap.size 3 i0 (.int .i64 0) 1 8 Tryz.underlying22 hi1 hz0 hz1 hz2 rfl (by decide) _ _ _ rfl (Hown.out.alloc _) ⟨wr.heap.size, 0, none⟩ 1 1 [.int .i64 (an : Int)] rfl rfl ?c1 ?c2 ?c3 ?c4 ?c5 ?_)
   case c1 => exact cells_new _ _ _
   case c2 => simp [Value.oneCell']
   case c3 => unfold maxLen; omega
   case c4 => omega
   case c5 => simp; omega
   intro v' w8 hown8 hgrow _; clear hi1 e1 e2; go_wp2_with fail
   go_roundw
   case rel =>
    refine ⟨i + 1, by omega, by go_num, Lib.hid ?_, (below_step hb (below_alloc wr _)).grown hgrow (by simp; omega) fun r hr => (own_block Hown.out r hr).1⟩
    rw [Hs.out, List.length_append, List.map_append, hl]; exact hown8
   case measure => simp [intOf]; omega
  ·obtain rfl : i = P := by omega
   have hl := bitsL_len i m
   have Hn := Lib.hid (show Nums wr w.heap.size u4 (bitsL i m) from Rows.of_owns (rows := (bitsL i m).map inRow) (by
    have e : ((bitsL i m).map inRow).flatten = (bitsL i m).map fun x : Nat => Value.int .i64 (x : Int) := flatten_single (fun x : Nat => Value.int .i64 (x : Int)) _
    rw [e, List.length_map]; exact Hown.out) (by simp; omega) (by simp [inRow]))
   go_wp2_with fail
   go_ret
   exact ⟨_, rfl, Hn.out, hb⟩
end Go.Proofs.YtfcaokpadodijaaGreat
/- The best set of slots, by how many and then in order: what the reference leaves out is what the program leaves out. Plain facts. -/
namespace Go.Proofs.YtfcaokpadodijaaGreat
open Go.RowKit Go.Proofs.YtfcaokpadodijaaGreat.Mat

/-- What the next sets are, where those at which left is false are done: each as it was, or with one more. -/
def NyS (S : Nat → Prop) (F : Nat → Bool) (P : Nat) (left : Lit → Bool) (m' : Nat) : Prop := ∃ m, m < 64 ∧ S m ∧ left (litN m) = false ∧ (m' = m ∨ Stp F P m m')
def NyM (S : Nat → Prop) (F : Nat → Bool) (P : Nat) (left : Lit → Bool) (m i m' : Nat) : Prop := NyS S F P left m' ∨ m' = m ∨ Stp F i m m'
theorem nym_end {S : Nat → Prop} {F : Nat → Bool} {P m m' : Nat} {left : Lit → Bool} (hm : m < 64) (hS : S m) (hl : left (litN m) = true) :
  NyM S F P left m P m' ↔ NyS S F P (fun z => left z && !z.sameKey (litN m)) m' := by
 constructor
 ·rintro (⟨m2, a, b, c, d⟩ | h)
  ·exact ⟨m2, a, b, by show (left (litN m2) && _) = false; rw [c]; rfl, d⟩
  ·exact ⟨m, hm, hS, by show (left (litN m) && !(litN m).sameKey (litN m)) = false; rw [same_litN _ _ hm]; simp, h⟩
 ·rintro ⟨m2, a, b, c, d⟩
  replace c : (left (litN m2) && !(litN m2).sameKey (litN m)) = false := c
  rw [same_litN _ _ a] at c
  by_cases e : m2 = m
  ·subst e; exact .inr d
  ·simp [e] at c
   exact .inl ⟨m2, a, b, c, d⟩
theorem rcl_small {fits : Nat → Nat → Bool} {P m : Nat} {xs : List Nat} (hP : P ≤ 6) (h : Rcl fits P xs m) : m < 64 := by
 obtain ⟨B, _, _, h⟩ := h
 exact rch_small hP h
/-- Scorer k can be in slot i. -/
def fitK (cs : List ScD) (ss : List SlD) (k i : Nat) : Bool := fitL cs ss i k
def valB : List Nat → Nat
 | [] => 0
 | b :: l => b * 2 ^ l.length + valB l
theorem valB_lt : ∀ {l : List Nat}, (∀ x ∈ l, x ≤ 1) → valB l < 2 ^ l.length
 | [], _ => by simp [valB]
 | b :: l, h => by
  have ih := valB_lt (l := l) fun x hx => h x (by simp [hx])
  have hb := h b (by simp)
  rw [valB, List.length_cons, Nat.pow_succ]; rcases Nat.le_one_iff_eq_zero_or_eq_one.1 hb with rfl | rfl <;> omega
theorem cmpI_lt {a b : Nat} (h : a < b) : Lib.compareInt (a : Int) (b : Int) = -1 := by unfold Lib.compareInt; simp; omega
theorem cmpI_gt {a b : Nat} (h : b < a) : Lib.compareInt (a : Int) (b : Int) = 1 := by unfold Lib.compareInt; simp; omega
theorem cmpI_eq (a : Nat) : Lib.compareInt (a : Int) (a : Int) = 0 := by unfold Lib.compareInt; simp
theorem cmpN_val : ∀ {x y : List Nat}, (∀ a ∈ x, a ≤ 1) → (∀ b ∈ y, b ≤ 1) → x.length = y.length → (0 < cmpN x y ↔ valB y < valB x)
 | [], [], _, _, _ => by simp [cmpN, valB]
 | [], _ :: _, _, _, h => by simp at h
 | _ :: _, [], _, _, h => by simp at h
 | a :: x, b :: y, hx, hy, h => by
  have hl : x.length = y.length := by simpa using h
  have ih := cmpN_val (x := x) (y := y) (fun c hc => hx c (by simp [hc])) (fun c hc => hy c (by simp [hc])) hl
  have vx := valB_lt (l := x) fun c hc => hx c (by simp [hc])
  have vy := valB_lt (l := y) fun c hc => hy c (by simp [hc])
  rw [cmpN, valB, valB, hl]; rw [hl] at vx
  have ha := hx a (by simp)
  have hb := hy b (by simp)
  rcases Nat.lt_trichotomy a b with h1 | h1 | h1
  ·obtain ⟨rfl, rfl⟩ : a = 0 ∧ b = 1 := by omega
   rw [cmpI_lt h1]; simp; omega
  ·subst h1
   rw [cmpI_eq, if_pos rfl, ih]; omega
  ·obtain ⟨rfl, rfl⟩ : a = 1 ∧ b = 0 := by omega
   rw [cmpI_gt h1]; simp; omega
theorem bitsL_le (P m : Nat) : ∀ x ∈ bitsL P m, x ≤ 1 := fun x hx => by
 obtain ⟨i, _, rfl⟩ := List.mem_map.1 hx
 exact Nat.and_le_right
theorem bit_val (m i : Nat) : (m >>> i) &&& 1 = if m.testBit i then 1 else 0 := by
 have h := bit_test m i
 have h1 : (m >>> i) &&& 1 ≤ 1 := Nat.and_le_right
 split
 ·rename_i hb; exact h.2 hb
 ·rename_i hb
  have : ¬ (m >>> i) &&& 1 = 1 := fun e => hb (h.1 e)
  omega
theorem sum_le_len : ∀ {l : List Nat}, (∀ x ∈ l, x ≤ 1) → l.sum ≤ l.length
 | [], _ => by simp
 | b :: l, h => by
  have ih := sum_le_len (l := l) fun x hx => h x (by simp [hx])
  have hb := h b (by simp)
  rw [List.sum_cons, List.length_cons]; omega
def popB (P m : Nat) : Nat := (bitsL P m).sum
theorem popB_slots (P m : Nat) : popB P m = (slotsOf P m).length := by
 unfold popB slotsOf
 induction P with
 | zero => rfl
 | succ P ih =>
  rw [bitsL_succ, List.sum_append, ih, List.range_succ, List.filter_append, List.length_append, bit_val]; cases h : m.testBit P <;> simp [h]
def valM (P m : Nat) : Nat := valB (bitsL P m)
/-- Set m is better than set b. -/
def Bet (P m b : Nat) : Prop := popB P b < popB P m ∨ popB P m = popB P b ∧ valM P b < valM P m
theorem bet_cmp (P m b : Nat) : Bet P m b ↔ popB P b < popB P m ∨ popB P m = popB P b ∧ 0 < cmpN (bitsL P m) (bitsL P b) := by
 unfold Bet valM
 rw [cmpN_val (bitsL_le P m) (bitsL_le P b) (by rw [bitsL_len, bitsL_len])]
/-- The best of those that are done. -/
def BstI (S : Nat → Prop) (P : Nat) (left : Lit → Bool) (b : Nat) (most : Int) : Prop :=
 b < 64 ∧ ((most = -1 ∧ ∀ m, m < 64 → S m → left (litN m) = true) ∨ (S b ∧ most = (popB P b : Int) ∧ ∀ m, m < 64 → S m → left (litN m) = false → ¬ Bet P m b))
theorem bst_start {S : Nat → Prop} {P : Nat} {left : Lit → Bool} (h : ∀ m, m < 64 → S m → left (litN m) = true) : BstI S P left 0 (-1) := ⟨by omega, .inl ⟨rfl, h⟩⟩
theorem strike_false {left : Lit → Bool} {m x : Nat} (hm : x < 64) (h : (left (litN x) && !(litN x).sameKey (litN m)) = false) : left (litN x) = false ∨ x = m := by
 rw [same_litN _ _ hm] at h
 by_cases e : x = m
 ·exact .inr e
 ·simp [e] at h; exact .inl h
theorem bst_new {S : Nat → Prop} {P m b : Nat} {most : Int} {left : Lit → Bool} (hm : m < 64) (hS : S m) (h : BstI S P left b most) (hb : most < (popB P m : Int) ∨ most = (popB P m : Int) ∧ 0 < cmpN (bitsL P m) (bitsL P b)) :
  BstI S P (fun z => left z && !z.sameKey (litN m)) m (popB P m) := by
 refine ⟨hm, .inr ⟨hS, rfl, fun x hx hSx hl hbx => ?_⟩⟩
 rcases strike_false hx hl with hl | rfl
 ·rcases h.2 with ⟨_, h2⟩ | ⟨_, h2, h3⟩
  ·rw [h2 x hx hSx] at hl; cases hl
  ·have h4 := h3 x hx hSx hl
   have h5 : Bet P m b := by rw [bet_cmp]; rcases hb with hb | ⟨hb, hc⟩; (· left; omega); (· right; exact ⟨by omega, hc⟩)
   unfold Bet at *
   omega
 ·unfold Bet at hbx; omega
theorem bst_keep {S : Nat → Prop} {P m b : Nat} {most : Int} {left : Lit → Bool} (hS : S m) (hl : left (litN m) = true) (hm : m < 64) (h : BstI S P left b most) (hb : ¬ (most < (popB P m : Int) ∨ most = (popB P m : Int) ∧ 0 < cmpN (bitsL P m) (bitsL P b))) :
  BstI S P (fun z => left z && !z.sameKey (litN m)) b most := by
 refine ⟨h.1, ?_⟩
 rcases h.2 with ⟨h1, h2⟩ | ⟨h1, h2, h3⟩
 ·exact absurd (.inl (by omega)) hb
 ·refine .inr ⟨h1, h2, fun x hx hSx hlx hbx => ?_⟩
  rcases strike_false hx hlx with hlx | rfl
  ·exact h3 x hx hSx hlx hbx
  ·rw [bet_cmp] at hbx
   rw [h2] at hb
   exact hb (hbx.imp (fun h => by omega) fun h => ⟨by omega, h.2⟩)
theorem cmpN_pre {a b : Nat} {xs ys : List Nat} (h : b < a) : ∀ x : List Nat, 0 < cmpN (x ++ a :: xs) (x ++ b :: ys)
 | [] => by rw [List.nil_append, List.nil_append, cmpN, cmpI_gt h]; simp
 | c :: x => by rw [List.cons_append, List.cons_append, cmpN, cmpI_eq, if_pos rfl]; exact cmpN_pre h x
theorem bitsL_split (j q m : Nat) : ∃ r, bitsL (j + 1 + q) m = bitsL j m ++ ((m >>> j) &&& 1) :: r := by
 unfold bitsL
 refine ⟨((List.range q).map (j + 1 + ·)).map fun i => (m >>> i) &&& 1, ?_⟩
 rw [List.range_add, List.map_append, List.range_succ, List.map_append]
 simp
theorem bits_same {j a b : Nat} (h : ∀ i, i < j → a.testBit i = b.testBit i) : bitsL j a = bitsL j b := by
 unfold bitsL
 refine List.map_congr_left fun i hi => ?_
 rw [bit_val, bit_val, h i (List.mem_range.1 hi)]
/-- The best set of all is that of those who are filled one after the other. -/
theorem lack_final {cs : List ScD} {ss : List SlD} {b : Nat} {most : Int} {left : Lit → Bool} (hP : ss.length ≤ 6) (hl : ∀ l, left l = false)
  (h : BstI (fun m => Rcl (fitK cs ss) ss.length (List.range cs.length) m) ss.length left b most) : ∀ i, i < ss.length → (b.testBit i = true ↔ i ∈ lkA cs ss ss.length) := by
 obtain ⟨g1, g2, g3, _, _⟩ := grd_best (canP_iff (fitL cs ss) cs.length) (w := fun _ => 0) (who := List.range ss.length) List.nodup_range (fun _ _ => Int.le_refl _) (List.Pairwise.imp (fun _ => Int.le_refl _) (List.pairwise_lt_range (n := ss.length)))
 have hG : lkA cs ss ss.length = grd (canP (fitL cs ss) cs.length) [] (List.range ss.length) := rfl
 rw [← hG] at g1 g2 g3
 generalize hGG : lkA cs ss ss.length = G at g1 g2 g3 hG
 have hmem : ∀ i, i ∈ slotsOf ss.length (maskL G) ↔ i ∈ G := fun i => by
  unfold slotsOf; rw [List.mem_filter, maskL_bit]; exact ⟨fun h => h.2, fun h => ⟨g2 i h, h⟩⟩
 have hperm : (slotsOf ss.length (maskL G)).Perm G := (List.perm_ext_iff_of_nodup (List.nodup_range.sublist List.filter_sublist) g1).2 hmem
 have hfitG : Fit (fitL cs ss) cs.length (slotsOf ss.length (maskL G)) := by
  obtain ⟨f, f1, f2⟩ := g3; exact ⟨f, fun a ha => f1 a ((hmem a).1 ha), fun a ha c hc => f2 a ((hmem a).1 ha) c ((hmem c).1 hc)⟩
 have hSG : Rcl (fitK cs ss) ss.length (List.range cs.length) (maskL G) := rcl_dual.2 ⟨fun i hi => List.mem_range.1 (g2 i (maskL_bit.1 hi)), hfitG⟩
 have hG64 := rcl_small hP hSG
 rcases h.2 with ⟨_, h2⟩ | ⟨hSb, _, h3⟩
 ·have := h2 _ hG64 hSG
  rw [hl] at this; cases this
 ·have hno := h3 _ hG64 hSG (hl _)
  rw [bet_cmp] at hno
  have hb2 := (rcl_dual.1 hSb).2; obtain ⟨k1, k2⟩ := lack_best (canP_iff (fitL cs ss) cs.length) (P := ss.length) (m := b) hb2; rw [← hG] at k1 k2
  have p1 : popB ss.length (maskL G) = G.length := by rw [popB_slots, hperm.length_eq]
  have p2 := popB_slots ss.length b; rcases k2 with k2 | ⟨j, hj, hjG, hjb, hji⟩
  ·exact k2
  ·exfalso
   refine hno ?_; by_cases hlt : popB ss.length b < popB ss.length (maskL G)
   ·exact .inl hlt
   ·refine .inr ⟨by omega, ?_⟩
    obtain ⟨q, hq⟩ : ∃ q, ss.length = j + 1 + q := ⟨ss.length - (j + 1), by omega⟩
    obtain ⟨r1, e1⟩ := bitsL_split j q (maskL G); obtain ⟨r2, e2⟩ := bitsL_split j q b
    rw [hq, e1, e2, bits_same (a := maskL G) (b := b) fun i hi => by
     rw [Bool.eq_iff_iff, maskL_bit]; exact (hji i hi).symm]
    refine cmpN_pre ?_ _; rw [bit_val, bit_val, if_pos (maskL_bit.2 hjG), hjb]; simp
theorem can_lkA {cs : List ScD} {ss : List SlD} {i : Nat} (hi : i < ss.length) : canP (fitL cs ss) cs.length (i :: lkA cs ss i) = true ↔ i ∈ lkA cs ss ss.length := by
 have h1 := lkA_succ cs ss i
 have h2 : i ∈ lkA cs ss (i + 1) ↔ i ∈ lkA cs ss ss.length ∧ i < i + 1 := grd_prefix (can := canP (fitL cs ss) cs.length) ss.length (by omega)
 cases hc : canP (fitL cs ss) cs.length (i :: lkA cs ss i) with
 | true =>
  rw [hc, if_pos rfl] at h1
  exact ⟨fun _ => (h2.1 (by rw [h1]; simp)).1, fun _ => rfl⟩
 | false =>
  rw [hc, if_neg (by simp)] at h1
  constructor
  ·intro h; cases h
  ·intro h
   have := h2.2 ⟨h, by omega⟩
   rw [h1] at this
   exact absurd this (lkA_lt cs ss i)
/-- The keys of the slots that are not in a set. -/
def outK (ss : List SlD) (b k : Nat) : List ByteArray := ((List.range k).filter fun i => !b.testBit i).map fun i => (slAt ss i).key
theorem outK_succ (ss : List SlD) (b k : Nat) : outK ss b (k + 1) = outK ss b k ++ (if b.testBit k then [] else [(slAt ss k).key]) := by
 unfold outK
 rw [List.range_succ, List.filter_append, List.map_append]
 congr 1
 cases h : b.testBit k <;> simp [h]
theorem outK_lkL {cs : List ScD} {ss : List SlD} {b : Nat} (h : ∀ i, i < ss.length → (b.testBit i = true ↔ i ∈ lkA cs ss ss.length)) : outK ss b ss.length = lkL cs ss ss.length := by
 unfold outK lkL
 congr 1
 refine List.filter_congr fun i hi => ?_
 have hi' := List.mem_range.1 hi
 have e : b.testBit i = canP (fitL cs ss) cs.length (i :: lkA cs ss i) := by rw [Bool.eq_iff_iff, h i hi', can_lkA hi']
 rw [e]
theorem outK_len (ss : List SlD) (b k : Nat) : (outK ss b k).length ≤ k := by
 unfold outK
 rw [List.length_map]
 exact Nat.le_trans (List.length_filter_le _ _) (by rw [List.length_range]; exact Nat.le_refl _)
end Go.Proofs.YtfcaokpadodijaaGreat
namespace Go.Proofs.YtfcaokpadodijaaGreat
open Go.RowKit Go.Proofs.YtfcaokpadodijaaGreat.Mat

def o33_13 : Array Go.Oper := #[
 ⟨some 42, .move (.tmp 9), 3, "scores.go:382", #[], none⟩,
 ⟨some 43, .move (.tmp 10), 3, "scores.go:382", #[], none⟩,
 ⟨some 44, .binOp .shr 3 (.tmp 42) (.tmp 43) 3, 3, "scores.go:382", #[⟨0, .data⟩, ⟨1, .data⟩], none⟩,
 ⟨some 45, .binOp .and 3 (.tmp 44) (.const (.int .i64 1)) 3, 3, "scores.go:382", #[⟨2, .data⟩], none⟩,
 ⟨some 46, .binOp .eql 3 (.tmp 45) (.const (.int .i64 0)) 3, 4, "scores.go:382", #[⟨3, .data⟩], none⟩,
 ⟨some 47, .move (.tmp 46), 4, "scores.go:382", #[⟨4, .data⟩], none⟩,
 ⟨some 48, .load 26 (.tmp 2), 26, "scores.go:382", #[⟨5, .guard⟩], some (5, true)⟩,
 ⟨some 49, .move (.tmp 10), 3, "scores.go:382", #[⟨5, .guard⟩], some (5, true)⟩,
 ⟨some 50, .indexAddr 26 (.tmp 48) (.tmp 49), 0, "scores.go:382", #[⟨6, .data⟩, ⟨7, .data⟩, ⟨5, .guard⟩], some (5, true)⟩,
 ⟨some 51, .load 72 (.tmp 50), 72, "scores.go:382", #[⟨8, .data⟩, ⟨5, .guard⟩], some (5, true)⟩,
 ⟨some 52, .load 77 (.tmp 7), 77, "scores.go:382", #[⟨5, .guard⟩], some (5, true)⟩,
 ⟨some 53, .call { callee := .value (.func 61), args := #[.tmp 51, .tmp 52], argTypes := #[72, 77] }, 4, "scores.go:382", #[⟨9, .data⟩, ⟨10, .data⟩, ⟨5, .chain⟩, ⟨5, .guard⟩], some (5, true)⟩,
 ⟨some 54, .pick (.tmp 47) (.tmp 53) (.const (.bool false)), 4, "scores.go:382", #[⟨5, .data⟩, ⟨11, .data⟩], none⟩]
theorem o33_13_0 : o33_13[0]? = some (⟨some 42, .move (.tmp 9), 3, "scores.go:382", #[], none⟩ : Go.Oper) := rfl
theorem o33_13_1 : o33_13[1]? = some (⟨some 43, .move (.tmp 10), 3, "scores.go:382", #[], none⟩ : Go.Oper) := rfl
theorem o33_13_2 : o33_13[2]? = some (⟨some 44, .binOp .shr 3 (.tmp 42) (.tmp 43) 3, 3, "scores.go:382", #[⟨0, .data⟩, ⟨1, .data⟩], none⟩ : Go.Oper) := rfl
theorem o33_13_3 : o33_13[3]? = some (⟨some 45, .binOp .and 3 (.tmp 44) (.const (.int .i64 1)) 3, 3, "scores.go:382", #[⟨2, .data⟩], none⟩ : Go.Oper) := rfl
theorem o33_13_4 : o33_13[4]? = some (⟨some 46, .binOp .eql 3 (.tmp 45) (.const (.int .i64 0)) 3, 4, "scores.go:382", #[⟨3, .data⟩], none⟩ : Go.Oper) := rfl
theorem o33_13_5 : o33_13[5]? = some (⟨some 47, .move (.tmp 46), 4, "scores.go:382", #[⟨4, .data⟩], none⟩ : Go.Oper) := rfl
theorem o33_13_6 : o33_13[6]? = some (⟨some 48, .load 26 (.tmp 2), 26, "scores.go:382", #[⟨5, .guard⟩], some (5, true)⟩ : Go.Oper) := rfl
theorem o33_13_7 : o33_13[7]? = some (⟨some 49, .move (.tmp 10), 3, "scores.go:382", #[⟨5, .guard⟩], some (5, true)⟩ : Go.Oper) := rfl
theorem o33_13_8 : o33_13[8]? = some (⟨some 50, .indexAddr 26 (.tmp 48) (.tmp 49), 0, "scores.go:382", #[⟨6, .data⟩, ⟨7, .data⟩, ⟨5, .guard⟩], some (5, true)⟩ : Go.Oper) := rfl
theorem o33_13_9 : o33_13[9]? = some (⟨some 51, .load 72 (.tmp 50), 72, "scores.go:382", #[⟨8, .data⟩, ⟨5, .guard⟩], some (5, true)⟩ : Go.Oper) := rfl
theorem o33_13_10 : o33_13[10]? = some (⟨some 52, .load 77 (.tmp 7), 77, "scores.go:382", #[⟨5, .guard⟩], some (5, true)⟩ : Go.Oper) := rfl
theorem o33_13_11 : o33_13[11]? = some (⟨some 53, .call { callee := .value (.func 61), args := #[.tmp 51, .tmp 52], argTypes := #[72, 77] }, 4, "scores.go:382", #[⟨9, .data⟩, ⟨10, .data⟩, ⟨5, .chain⟩, ⟨5, .guard⟩], some (5, true)⟩ : Go.Oper) := rfl
theorem o33_13_12 : o33_13[12]? = some (⟨some 54, .pick (.tmp 47) (.tmp 53) (.const (.bool false)), 4, "scores.go:382", #[⟨5, .data⟩, ⟨11, .data⟩], none⟩ : Go.Oper) := rfl
theorem o33_13_ns : Go.Region.noSelect o33_13 = true := by kernel_rfl
set_option maxRecDepth 100000 in
set_option maxHeartbeats 32000000 in
theorem lackingOf_calls (lo lo' : Nat) (u v : Value) (ss : List SlD) (cs : List ScD) (w : World) (hS : Sls w lo u ss) (hC : Scs w lo' v cs) (h0 : 0 < ss.length) (hm : ss.length ≤ 6) (hcn : cs.length ≤ 6) :
  Calls Tryz.prog 33 #[u, v] w fun e w' => ∃ x, e = .returned x ∧ Strs w' 0 x (lkL cs ss ss.length) ∧ Below w.heap.size w w' := by
 obtain ⟨la, lc, rfl⟩ := NRows.shape hC
 obtain ⟨sg, so, sk, rfl⟩ : ∃ sg so sk, u = .slice (some ⟨sg, so, none⟩) ss.length sk := by
  rcases NRows.at hS with ⟨_, rfl⟩ | ⟨g, off, cap, e, _⟩
  ·simp at h0
  ·exact ⟨g, off, cap, e⟩
 obtain ⟨X2, W2, eX2, eW2, h2, hbW⟩ := any_box w (.cells #[.slice (some ⟨sg, so, none⟩) ss.length sk] 26)
 have HSl := Lib.hid (fun w' (hb : Below W2.heap.size W2 w') => sls_fb (NRows.below (NRows.below hS hbW) hb))
 have HSc := Lib.hid (fun w' (hb : Below W2.heap.size W2 w') => scs_fb (NRows.below (NRows.below hC hbW) hb))
 have HX2 := Lib.hid (fun w' (hb : Below W2.heap.size W2 w') => below_cell hb (cell_at h2 0 rfl))
 have HbW := Lib.hid hbW
 clear hS hC h2 hbW
 have hmm := @run_makeMap Tryz.prog
 obtain ⟨w1, hput, hI1, hg1⟩ := (ISet.made W2).put (by omega) 0 (by omega) (.bool true)
 have HI1 := Lib.hid hI1
 replace hput : (Instr.mapUpdate 124 (.map (some W2.heap.size)) (.int .i64 0) (.bool true)).run Tryz.prog (W2.alloc (.map #[] 0)) = .ok () w1 := hput
 have hb1 : Below W2.heap.size W2 w1 := (below_alloc W2 _).grown hg1 (by simp) (fun r hr => by cases hr; exact Nat.le_refl _)
 clear hI1 hg1
 go_enter Tryz.func33, Tryz.ntmps33
 go_upto_region 2 with fail
 clear hput eX2 eW2
 have HI2 := Lib.hid (show ISet w1 W2.heap.size (7 ^ 0) (fun m => Rcl (fitK cs ss) ss.length (List.range 0) m) from HI1.out.congr fun m hm => ⟨fun h => by
  rcases h with h | rfl
  ·exact absurd h id
  ·exact rcl_nil.2 rfl, fun h => .inr (rcl_nil.1 h)⟩)
 clear HI1
 go_wp2_with fail
 go_loopw [5, 24] (fun mv idx wr => ∃ (k b : Nat), k ≤ cs.length ∧ idx = .int .i64 (k : Int) ∧ mv = .map (some b) ∧ W2.heap.size ≤ b ∧ Hid (ISet wr b (7 ^ k) (fun m => Rcl (fitK cs ss) ss.length (List.range k) m)) ∧ Below W2.heap.size W2 wr) (fun _ idx _ => cs.length - (intOf idx).toNat)
 case atStart => exact ⟨0, W2.heap.size, Nat.zero_le _, rfl, rfl, Nat.le_refl _, HI2, hb1⟩
 case round =>
  clear HI2 hb1; obtain ⟨k, b, hk, rfl, rfl, hbw, HI, hb⟩ := hrel; obtain ⟨wo, hwo⟩ : ∃ x, x = wr := ⟨_, rfl⟩
  rw [← hwo] at HI hb ⊢
  clear hwo; by_cases hlt : k < cs.length
  ·have hlt' : (k : Int) < (cs.length : Int) := by omega
   have hc : cs[k]? = some cs[k] := List.getElem?_eq_getElem hlt
   generalize cs[k] = c at hc
   have HFi := Lib.hid (show ∀ i s, ss[i]? = some s → fitK cs ss k i = fitB s c from fun i s hs => by unfold fitK fitL; rw [scAt_some hc, slAt_some hs, suit_fit])
   obtain ⟨cg, co, cx, clo, hla, q0, q1, q2, q3, q4, hcp⟩ := HSc.out wo hb k c hc; obtain ⟨pa, pl, pc, rfl⟩ := strs_shapeN hcp; subst hla; have HP := Lib.hid (fun w' (hb' : Below wo.heap.size wo w') => hcp.below hb')
   clear hc hcp; generalize hF : fitK cs ss k = F at HFi
   have HF := Lib.hid hF; clear hF; obtain ⟨D, hown, hD, hSD⟩ := HI.out; have Hsz := Lib.hid hown.size_le; have hbl := hown.lt; obtain ⟨SK, HSK⟩ : ∃ SK : Nat → Prop, Hid (∀ m, SK m ↔ Rcl (fitK cs ss) ss.length (List.range k) m) := ⟨_, Lib.hid fun m => Iff.rfl⟩
   have HSD := Lib.hid (show ∀ l, Maps.has D l = true ↔ ∃ m, m < 64 ∧ SK m ∧ l = litN m from fun l => (hSD l).trans ⟨fun ⟨m, a, s, e⟩ => ⟨m, a, (HSK.out m).2 s, e⟩, fun ⟨m, a, s, e⟩ => ⟨m, a, (HSK.out m).1 s, e⟩⟩)
   clear hSD HI; go_upto_region 5 with fail
   obtain ⟨X7, W7, e7, f7, h7, hb7⟩ := any_box wo (.cells #[.string c.who, .slice pa pl pc, .int .i64 c.num, .int .i64 c.den, .bool c.played] 77); rw [f7, e7]; have hown7 := hown.kept (gb_below hb7 none) (by simp)
   have hbl7 : b < W7.heap.size := by have := hb7.size; omega
   have hX7 : wo.heap.size ≤ X7 := by omega
   clear e7 f7 q0 q1 q2 q3 q4 hown hbl; go_upto_region 6 with fail
   have hN := ISet.made W7; have hbn := below_alloc W7 (.map #[] 0); have hownN := hown7.kept (gb_below hbn none) (by simp)
   have hsn : W7.heap.size < (W7.alloc (.map #[] 0)).heap.size := by simp
   have hwX : wo.heap.size ≤ W7.heap.size := hb7.size
   have h7X : X7 ≠ W7.heap.size := by have := lt_of_heap h7; omega
   have hbo := below_step hb7 hbn; have hbX : b ≠ W7.heap.size := by omega
   replace h7 := keep_heap h7 hbn; generalize W7.alloc (.map #[] 0) = Wn at hN hbn hownN hbo hsn h7 ⊢
   generalize W7.heap.size = X at hN hsn hwX hbX h7X ⊢
   clear hbn hown7 hbl7 hb7; go_wp2_with (first | (at_range; refine wpList_range_own _ rfl _ 124 rfl 3 4 lawI Tryz.underlying124 _ b _ _ rfl hownN ?_; intro w3 hrg3 hg3 hs3) | go_in)
   go_frame
   have hN3 := hN.kept hg3 (by simp)
   have hb3 : Below wo.heap.size wo w3 := hbo.grown hg3 hbo.size (by simp)
   have hXr : X ≠ Wn.heap.size := by omega
   have h7w := lt_of_heap h7; have h73 : w3.heap[X7]? = some (.cells #[.string c.who, .slice pa pl pc, .int .i64 c.num, .int .i64 c.den, .bool c.played] 77 (0, 0)) := (hg3.block X7 h7w (by simp)).trans h7
   have hwr : wo.heap.size ≤ Wn.heap.size := hbo.size
   have h7r : X7 ≠ Wn.heap.size := by omega
   generalize Wn.heap.size = r at hrg3 hXr hwr h7r ⊢
   clear hN hownN hbo hg3 hs3 hsn h7 h7w; go_loopw [9] (fun _ w4 => ∃ (left : Lit → Bool) (cnt n' : Nat), Hid (w4.ranges Tryz.prog 3 heldR b r (7 ^ k) D left cnt) ∧ cnt ≤ Maps.size D ∧ Hid (ISet w4 X n' (NyS SK F ss.length left)) ∧ n' ≤ 7 * (Maps.size D - cnt) ∧ Hid (w4.heap[X7]? = some (.cells #[.string c.who, .slice pa pl pc, .int .i64 c.num, .int .i64 c.den, .bool c.played] 77 (0, 0))) ∧ Below wo.heap.size wo w4) (fun _ w4 => w4.rangeLeft b r)
   case atStart =>
    refine ⟨_, _, 0, Lib.hid hrg3, Nat.le_refl _, Lib.hid (hN3.congr fun m' hm' => ⟨fun h => absurd h id, fun ⟨m, a, s, h, _⟩ => ?_⟩), Nat.zero_le _, Lib.hid h73, hb3⟩
    rw [(HSD.out _).2 ⟨m, a, s, rfl⟩] at h; cases h
   case round =>
    clear hrg3 hN3 hb3 h73; obtain ⟨left, cnt, n', Hrg, hcs, HN, hn', H7, hb4⟩ := hrel; go_wp2_with (first | (at_next; refine wpList_next_ranges _ rfl _ rfl 3 lawI heldR (fun x : Int => Value.int .i64 x) (fun v : Value => v) ?iK ?iV b r _ D left cnt rfl Hrg.out ?_ ?_) | go_in)
    case iK => intro key kl h; obtain ⟨x, rfl, _⟩ := Maps.keyOf_int_inv Tryz.underlying3 h; exact ⟨x, rfl⟩
    case iV => intro v y h; exact ⟨v, rfl⟩
    ·intro hc0 hl0
     have HI' := Lib.hid (show ISet wr X (7 ^ (k + 1)) (fun m => Rcl (fitK cs ss) ss.length (List.range (k + 1)) m) from (HN.out.congr fun m' hm' => by
      rw [List.range_succ, rcl_snoc (by simp)]
      constructor
      ·rintro ⟨m, a, s, _, rfl | ⟨i, e1, e2, e3, e4⟩⟩
       ·exact .inl ((HSK.out _).1 s)
       ·exact .inr ⟨m, i, (HSK.out m).1 s, e1, e2, by rw [HF.out]; exact e3, e4⟩
      ·rintro (s | ⟨m, i, s, e1, e2, e3, e4⟩)
       ·exact ⟨m', rcl_small hm s, (HSK.out m').2 s, hl0 _, .inl rfl⟩
       ·exact ⟨m, rcl_small hm s, (HSK.out m).2 s, hl0 _, .inr ⟨i, e1, e2, by rw [← HF.out]; exact e3, e4⟩⟩).mono (by
      have := Hsz.out
      rw [Nat.pow_succ]; omega))
     clear Hrg HN; go_wp2_with fail
     go_roundw
     case rel => exact ⟨k + 1, X, by omega, by go_num, rfl, by have := hb.size; omega, HI', hb.trans (hb4.mono hb.size)⟩
     case measure => simp [intOf]; omega
    ·intro x vv kl y ps w5 cnt5 hkey hlk hR hat hrg5 hlt5 hg5 hs5 hen
     have hh : Maps.has D kl = true := by
      cases h : Maps.has D kl with
      | true => rfl
      | false =>
       have h1 := hat (.map []); rw [Maps.atKey_of_not_has h] at h1
       cases hR
       cases h1
     obtain ⟨m, hm64, hSm, rfl⟩ := (HSD.out kl).1 hh
     obtain rfl : x = (m : Int) := by
      obtain ⟨x', ex, h2, _⟩ := Maps.keyOf_int_inv Tryz.underlying3 hkey; cases ex
      unfold litN at h2
      injection h2 with _ h2
      exact h2.symm
     have hN5 := HN.out.kept hg5 (by intro e; cases e; exact hXr rfl)
     have hb5 : Below wo.heap.size wo w5 := hb4.grown hg5 hb4.size (fun r' e => by cases e; exact hwr)
     have h75 := heap_gb H7.out hg5 h7r; have hpw : 7 ^ k ≤ 7 ^ 6 := Nat.pow_le_pow_right (by omega) (by omega)
     have hszD := Hsz.out; obtain ⟨w6, hput, hI6, hg6⟩ := hN5.put (by omega) m hm64 (.bool true)
     have Hrg6 := Lib.hid (hrg5.kept hg6 (by intro e; cases e; exact hbX rfl) (by intro e; cases e; exact hXr rfl))
     have hb6 : Below wo.heap.size wo w6 := hb5.grown hg6 hb5.size (fun r' e => by cases e; exact hwX)
     have H76 := Lib.hid (heap_gb h75 hg6 h7X); have x2 := HX2.out w6 (hb.trans (hb6.mono hb.size)); have HN6 := Lib.hid (hI6.congr fun m' _ => (show (NyS SK F ss.length left m' ∨ m' = m) ↔ NyM SK F ss.length left m 0 m' from or_congr Iff.rfl ⟨fun h => .inl h, fun h => h.elim id fun h => absurd h stp_zero⟩))
     have Hlk := Lib.hid hlk; have HSm := Lib.hid hSm; clear hkey hR hat hrg5 hg5 hs5 hh hlk hSm HN hb4 hb5 hN5 hI6 hg6 h75 H7 hpw hszD; go_wp2_with fail
     clear hen hput x2; go_loopw [39] (fun idx w6 => ∃ (i n2 : Nat), i ≤ ss.length ∧ idx = .int .i64 (i : Int) ∧ Hid (w6.ranges Tryz.prog 3 heldR b r (7 ^ k) D (fun z => left z && !z.sameKey (litN m)) cnt5) ∧ Hid (ISet w6 X n2 (NyM SK F ss.length left m i)) ∧ n2 ≤ n' + 1 + i ∧ Hid (w6.heap[X7]? = some (.cells #[.string c.who, .slice pa pl pc, .int .i64 c.num, .int .i64 c.den, .bool c.played] 77 (0, 0))) ∧ Below wo.heap.size wo w6) (fun idx _ => ss.length - (intOf idx).toNat)
     case atStart => exact ⟨0, n' + 1, Nat.zero_le _, rfl, Hrg6, HN6, by omega, H76, hb6⟩
     case round =>
      clear Hrg6 HN6 hb6 H76; obtain ⟨i, n2, hi, rfl, Hrg6, HN6, hn2, H7, hb6⟩ := hrel; by_cases hilt : i < ss.length
      ·have hilt' : (i : Int) < (ss.length : Int) := by omega
       have hs : ss[i]? = some ss[i] := List.getElem?_eq_getElem hilt
       generalize ss[i] = s at hs
       have hb2 := hb.trans (hb6.mono hb.size); obtain ⟨sx, slo, p0, p1, hsp⟩ := HSl.out wr hb2 i s hs; obtain ⟨ra, rl, rc, rfl⟩ := strs_shapeN hsp; have x2 := HX2.out wr hb2; have hcp := HP.out wr hb6; have HFs := HFi.out i s hs
       have HS := Lib.hid (show ∀ w', Below wr.heap.size wr w' → (Below wr.heap.size wr w' ∧ w'.cell? ⟨X2, 0, none⟩ = some (.slice (some ⟨sg, so, none⟩) ss.length sk) ∧ w'.cell? ⟨sg, so + i * 2, none⟩ = some (.string s.key) ∧ w'.cell? ⟨sg, so + i * 2 + 1, none⟩ = some (.slice ra rl rc) ∧ w'.cell? ⟨X7, 0, none⟩ = some (.string c.who) ∧ w'.cell? ⟨X7, 1, none⟩ = some (.slice pa pl pc) ∧ w'.cell? ⟨X7, 2, none⟩ = some (.int .i64 c.num) ∧ w'.cell? ⟨X7, 3, none⟩ = some (.int .i64 c.den) ∧ w'.cell? ⟨X7, 4, none⟩ = some (.bool c.played)) from fun w' hb => by
        have h := keep_heap H7.out hb; exact ⟨hb, below_cell hb x2, below_cell hb p0, below_cell hb p1, cell_at h 0 rfl, cell_at h 1 rfl, cell_at h 2 rfl, cell_at h 3 rfl, cell_at h 4 rfl⟩)
       obtain ⟨sh, hsh⟩ : ∃ sh, sh = m >>> i := ⟨_, rfl⟩
       have Hsh := Lib.hid (show (m : Int) / 2 ^ i = (sh : Int) by rw [hsh, Nat.shiftRight_eq_div_pow]; push_cast; rfl)
       have hshu : sh < 64 := by rw [hsh, Nat.shiftRight_eq_div_pow]; exact Nat.lt_of_le_of_lt (Nat.div_le_self _ _) hm64
       obtain ⟨an, han⟩ : ∃ an, an = sh &&& 1 := ⟨_, rfl⟩
       have Hbt := Lib.hid (show an = 1 ↔ m.testBit i = true by rw [han, hsh]; exact bit_test m i)
       have Han := Lib.hid (show bits .and .i64 (sh : Int) 1 = (an : Int) by rw [han]; exact bits_and64 sh 1 hshu (by omega))
       have han1 : an ≤ 1 := by rw [han]; exact Nat.and_le_right
       have hb0 := (Below.refl wr.heap.size wr).drew; clear hsh han hshu p0 p1 hs x2 hb2; go_upto_region 13 with fail
       cases hbit : m.testBit i
       ·have hai : ((an : Int) == 0) = true := by
         have : ¬ an = 1 := fun h => by have := Hbt.out.1 h; rw [hbit] at this; cases this
         simp; omega
        have Hbit := Lib.hid hbit; clear Hbt hbit han1; cases hfit : fitB s c
        ·show Code.wp _ (Code.region 13 o33_13 true) _ _ _
         refine region_start 13 (fun w' => Below wr.heap.size wr w' ∧ w'.cell? ⟨X2, 0, none⟩ = some (.slice (some ⟨sg, so, none⟩) ss.length sk) ∧ w'.cell? ⟨sg, so + i * 2, none⟩ = some (.string s.key) ∧ w'.cell? ⟨sg, so + i * 2 + 1, none⟩ = some (.slice ra rl rc) ∧ w'.cell? ⟨X7, 0, none⟩ = some (.string c.who) ∧ w'.cell? ⟨X7, 1, none⟩ = some (.slice pa pl pc) ∧ w'.cell? ⟨X7, 2, none⟩ = some (.int .i64 c.num) ∧ w'.cell? ⟨X7, 3, none⟩ = some (.int .i64 c.den) ∧ w'.cell? ⟨X7, 4, none⟩ = some (.bool c.played)) (by kernel_rfl) rfl ?_ (fun hHeld => ?_)
         ·(exact HS.out _ (by first | assumption | exact hHeld.1 | exact below_step hHeld.1 (by assumption)))
         refine take_to 0 42 (bQ 13 1) (v := ?_) o33_13_0 rfl o33_13_ns (by kernel_rfl) (by kernel_rfl) (fun _ _ _ h => h) (by rfl) ?y0b (by assumption) ?_
         case y0b => intro w h; (try dsimp only at h); go_simp; try with_reducible rfl
         simp only [sE0, sE1]; refine take_to 1 43 (bQ 13 3) (v := ?_) o33_13_1 rfl o33_13_ns (by kernel_rfl) (by kernel_rfl) (fun _ _ _ h => h) (by rfl) ?y1b (by assumption) ?_
         case y1b => intro w h; (try dsimp only at h); go_simp; try with_reducible rfl
         simp only [sE0, sE1]; refine take_to 2 44 (bQ 13 7) (v := .int .i64 (sh : Int)) o33_13_2 rfl o33_13_ns (by kernel_rfl) (by kernel_rfl) (fun _ _ _ h => h) (by rfl) ?y2b (by assumption) ?_
         case y2b =>
          intro w hSw; try dsimp only at hSw
          go_simp; exact Hsh.out
         simp only [sE0, sE1]; refine take_to 3 45 (bQ 13 15) (v := .int .i64 (an : Int)) o33_13_3 rfl o33_13_ns (by kernel_rfl) (by kernel_rfl) (fun _ _ _ h => h) (by rfl) ?y3b (by assumption) ?_
         case y3b =>
          intro w hSw; try dsimp only at hSw
          go_simp; exact Han.out
         simp only [sE0, sE1]; refine take_to 4 46 (bQ 13 31) (v := .bool true) o33_13_4 rfl o33_13_ns (by kernel_rfl) (by kernel_rfl) (fun _ _ _ h => h) (by rfl) ?y4b (by assumption) ?_
         case y4b =>
          intro w hSw; try dsimp only at hSw
          go_simp
         simp only [sE0, sE1]; refine take_to 5 47 (bQ 13 63) (v := ?_) o33_13_5 rfl o33_13_ns (by kernel_rfl) (by kernel_rfl) (fun _ _ _ h => h) (by rfl) ?y5b (by assumption) ?_
         case y5b => intro w h; (try dsimp only at h); go_simp; try with_reducible rfl
         simp only [sE0, sE1]; refine take_to 6 48 (bQ 13 127) (v := ?_) o33_13_6 rfl o33_13_ns (by kernel_rfl) (by kernel_rfl) (fun _ _ _ h => h) (by rfl) ?y6b (by assumption) ?_
         case y6b => intro w h; (try dsimp only at h); go_simp; try with_reducible rfl
         simp only [sE0, sE1]; refine take_to 7 49 (bQ 13 255) (v := ?_) o33_13_7 rfl o33_13_ns (by kernel_rfl) (by kernel_rfl) (fun _ _ _ h => h) (by rfl) ?y7b (by assumption) ?_
         case y7b => intro w h; (try dsimp only at h); go_simp; try with_reducible rfl
         simp only [sE0, sE1]; refine take_to 8 50 (bQ 13 511) (v := ?_) o33_13_8 rfl o33_13_ns (by kernel_rfl) (by kernel_rfl) (fun _ _ _ h => h) (by rfl) ?y8b (by assumption) ?_
         case y8b => intro w h; (try dsimp only at h); go_simp; try with_reducible rfl
         simp only [sE0, sE1]; refine take_to 9 51 (bQ 13 1023) (v := ?_) o33_13_9 rfl o33_13_ns (by kernel_rfl) (by kernel_rfl) (fun _ _ _ h => h) (by rfl) ?y9b (by assumption) ?_
         case y9b => intro w h; (try dsimp only at h); go_simp; try with_reducible rfl
         simp only [sE0, sE1]; refine take_to 10 52 (bQ 13 2047) (v := ?_) o33_13_10 rfl o33_13_ns (by kernel_rfl) (by kernel_rfl) (fun _ _ _ h => h) (by rfl) ?y10b (by assumption) ?_
         case y10b => intro w h; (try dsimp only at h); go_simp; try with_reducible rfl
         simp only [sE0, sE1]; refine run_to 11 (bQ 13 4095) o33_13_11 (by kernel_rfl) (by kernel_rfl) (by rfl) (fun K hK => ?_)
         go_simp; refine (fit_calls _ _ _ _ c s _ (hcp.below hHeld.1) (hsp.below hHeld.1)).mono ?_; rintro e w8 ⟨rfl, hb8⟩; go_wp2_with fail
         refine hK.out _ _ ?_ (fun hHeld => ?_)
         ·(exact HS.out _ (by first | assumption | exact hHeld.1 | exact below_step hHeld.1 (by assumption)))
         clear hK K; try simp only [Act.put, sEt, sE0, sE1]
         refine take_to 12 54 (bQ 13 8191) (v := ?_) o33_13_12 rfl o33_13_ns (by kernel_rfl) (by kernel_rfl) (fun _ _ _ h => h) (by rfl) ?y12b (by assumption) ?_
         case y12b => intro w h; (try dsimp only at h); go_simp; try with_reducible rfl
         simp only [sE0, sE1]; refine wpAnyH_done (by kernel_rfl) ?_ _
         have hbz := hHeld.1; have Hrg7 := Lib.hid (Hrg6.out.kept (gb_below hbz none) (by simp) (by simp))
         have hb9 := hb6.trans (hbz.mono hb6.size); have H78 := Lib.hid (keep_heap H7.out hbz); have Hx := Lib.hid ((HN6.out.congr fun m' _ => (show NyM SK F ss.length left m i m' ↔ NyM SK F ss.length left m (i + 1) m' from or_congr Iff.rfl (or_congr Iff.rfl (stp_no (.inr (by rw [HFs, hfit]))).symm))).below hbz)
         clear hHeld HS Hrg6 HN6 HFs H7; go_wp2_with fail
         go_roundw
         case rel => exact ⟨i + 1, n2, by omega, by go_num, Hrg7, Hx, by omega, H78, hb9⟩
         case measure => simp [intOf]; omega
        ·show Code.wp _ (Code.region 13 o33_13 true) _ _ _
         refine region_start 13 (fun w' => Below wr.heap.size wr w' ∧ w'.cell? ⟨X2, 0, none⟩ = some (.slice (some ⟨sg, so, none⟩) ss.length sk) ∧ w'.cell? ⟨sg, so + i * 2, none⟩ = some (.string s.key) ∧ w'.cell? ⟨sg, so + i * 2 + 1, none⟩ = some (.slice ra rl rc) ∧ w'.cell? ⟨X7, 0, none⟩ = some (.string c.who) ∧ w'.cell? ⟨X7, 1, none⟩ = some (.slice pa pl pc) ∧ w'.cell? ⟨X7, 2, none⟩ = some (.int .i64 c.num) ∧ w'.cell? ⟨X7, 3, none⟩ = some (.int .i64 c.den) ∧ w'.cell? ⟨X7, 4, none⟩ = some (.bool c.played)) (by kernel_rfl) rfl ?_ (fun hHeld => ?_)
         ·(exact HS.out _ (by first | assumption | exact hHeld.1 | exact below_step hHeld.1 (by assumption)))
         refine take_to 0 42 (bQ 13 1) (v := ?_) o33_13_0 rfl o33_13_ns (by kernel_rfl) (by kernel_rfl) (fun _ _ _ h => h) (by rfl) ?y0c (by assumption) ?_
         case y0c => intro w h; (try dsimp only at h); go_simp; try with_reducible rfl
         simp only [sE0, sE1]; refine take_to 1 43 (bQ 13 3) (v := ?_) o33_13_1 rfl o33_13_ns (by kernel_rfl) (by kernel_rfl) (fun _ _ _ h => h) (by rfl) ?y1c (by assumption) ?_
         case y1c => intro w h; (try dsimp only at h); go_simp; try with_reducible rfl
         simp only [sE0, sE1]; refine take_to 2 44 (bQ 13 7) (v := .int .i64 (sh : Int)) o33_13_2 rfl o33_13_ns (by kernel_rfl) (by kernel_rfl) (fun _ _ _ h => h) (by rfl) ?y2c (by assumption) ?_
         case y2c =>
          intro w hSw; try dsimp only at hSw
          go_simp; exact Hsh.out
         simp only [sE0, sE1]; refine take_to 3 45 (bQ 13 15) (v := .int .i64 (an : Int)) o33_13_3 rfl o33_13_ns (by kernel_rfl) (by kernel_rfl) (fun _ _ _ h => h) (by rfl) ?y3c (by assumption) ?_
         case y3c =>
          intro w hSw; try dsimp only at hSw
          go_simp; exact Han.out
         simp only [sE0, sE1]; refine take_to 4 46 (bQ 13 31) (v := .bool true) o33_13_4 rfl o33_13_ns (by kernel_rfl) (by kernel_rfl) (fun _ _ _ h => h) (by rfl) ?y4c (by assumption) ?_
         case y4c =>
          intro w hSw; try dsimp only at hSw
          go_simp
         simp only [sE0, sE1]; refine take_to 5 47 (bQ 13 63) (v := ?_) o33_13_5 rfl o33_13_ns (by kernel_rfl) (by kernel_rfl) (fun _ _ _ h => h) (by rfl) ?y5c (by assumption) ?_
         case y5c => intro w h; (try dsimp only at h); go_simp; try with_reducible rfl
         simp only [sE0, sE1]; refine take_to 6 48 (bQ 13 127) (v := ?_) o33_13_6 rfl o33_13_ns (by kernel_rfl) (by kernel_rfl) (fun _ _ _ h => h) (by rfl) ?y6c (by assumption) ?_
         case y6c => intro w h; (try dsimp only at h); go_simp; try with_reducible rfl
         simp only [sE0, sE1]; refine take_to 7 49 (bQ 13 255) (v := ?_) o33_13_7 rfl o33_13_ns (by kernel_rfl) (by kernel_rfl) (fun _ _ _ h => h) (by rfl) ?y7c (by assumption) ?_
         case y7c => intro w h; (try dsimp only at h); go_simp; try with_reducible rfl
         simp only [sE0, sE1]; refine take_to 8 50 (bQ 13 511) (v := ?_) o33_13_8 rfl o33_13_ns (by kernel_rfl) (by kernel_rfl) (fun _ _ _ h => h) (by rfl) ?y8c (by assumption) ?_
         case y8c => intro w h; (try dsimp only at h); go_simp; try with_reducible rfl
         simp only [sE0, sE1]; refine take_to 9 51 (bQ 13 1023) (v := ?_) o33_13_9 rfl o33_13_ns (by kernel_rfl) (by kernel_rfl) (fun _ _ _ h => h) (by rfl) ?y9c (by assumption) ?_
         case y9c => intro w h; (try dsimp only at h); go_simp; try with_reducible rfl
         simp only [sE0, sE1]; refine take_to 10 52 (bQ 13 2047) (v := ?_) o33_13_10 rfl o33_13_ns (by kernel_rfl) (by kernel_rfl) (fun _ _ _ h => h) (by rfl) ?y10c (by assumption) ?_
         case y10c => intro w h; (try dsimp only at h); go_simp; try with_reducible rfl
         simp only [sE0, sE1]; refine run_to 11 (bQ 13 4095) o33_13_11 (by kernel_rfl) (by kernel_rfl) (by rfl) (fun K hK => ?_)
         go_simp; refine (fit_calls _ _ _ _ c s _ (hcp.below hHeld.1) (hsp.below hHeld.1)).mono ?_; rintro e w8 ⟨rfl, hb8⟩; go_wp2_with fail
         refine hK.out _ _ ?_ (fun hHeld => ?_)
         ·(exact HS.out _ (by first | assumption | exact hHeld.1 | exact below_step hHeld.1 (by assumption)))
         clear hK K; try simp only [Act.put, sEt, sE0, sE1]
         refine take_to 12 54 (bQ 13 8191) (v := ?_) o33_13_12 rfl o33_13_ns (by kernel_rfl) (by kernel_rfl) (fun _ _ _ h => h) (by rfl) ?y12c (by assumption) ?_
         case y12c => intro w h; (try dsimp only at h); go_simp; try with_reducible rfl
         simp only [sE0, sE1]; refine wpAnyH_done (by kernel_rfl) ?_ _
         have hbz := hHeld.1; have Hrg7 := Lib.hid (Hrg6.out.kept (gb_below hbz none) (by simp) (by simp))
         have hb9 := hb6.trans (hbz.mono hb6.size); have H78 := Lib.hid (keep_heap H7.out hbz); have HN8 := HN6.out.below hbz; clear hHeld HS Hrg6 HN6 H7
         have hsl : 1 <<< i < 64 := by
          rw [Nat.one_shiftLeft]; exact (Nat.pow_lt_pow_right (a := 2) (by omega) (show i < 6 by omega) : 2 ^ i < 2 ^ 6)
         obtain ⟨sl, hsl'⟩ : ∃ sl, sl = 1 <<< i := ⟨_, rfl⟩
         have e1 : IntKind.i64.wrap ((2 : Int) ^ i) = (sl : Int) := by
          have h : (2 : Int) ^ i = (sl : Int) := by rw [hsl']; have h := shl_one i; simpa using h
          exact (congrArg IntKind.i64.wrap h).trans (wrap_nat sl (by rw [hsl']; exact hsl))
         obtain ⟨m2, hm2⟩ : ∃ m2, m2 = m ||| sl := ⟨_, rfl⟩
         have e2 : bits .or .i64 (m : Int) (sl : Int) = (m2 : Int) := by rw [hm2]; exact bits_or64 m sl hm64 (by rw [hsl']; exact hsl)
         have hm2l : m2 < 64 := by rw [hm2, hsl']; exact Nat.or_lt_two_pow (n := 6) hm64 hsl
         have hpw : 7 ^ k ≤ 7 ^ 6 := Nat.pow_le_pow_right (by omega) (by omega)
         have hszD := Hsz.out; obtain ⟨w9, hput, hI9, hg9⟩ := HN8.put (by omega) m2 hm2l (.bool true)
         have Hrg9 := Lib.hid (Hrg7.out.kept hg9 (by intro e; cases e; exact hbX rfl) (by intro e; cases e; exact hXr rfl))
         have hbw9 : Below wo.heap.size wo w9 := hb9.grown hg9 hb9.size (fun r' e => by cases e; exact hwX)
         have H79 := Lib.hid (heap_gb H78.out hg9 h7X)
         have Hx := Lib.hid (hI9.congr fun m' _ => (show (NyM SK F ss.length left m i m' ∨ m' = m2) ↔ NyM SK F ss.length left m (i + 1) m' by
          unfold NyM; rw [stp_yes Hbit.out (by rw [HFs, hfit]), or_assoc, or_assoc, hm2, hsl']))
         clear hm2 hsl' hsl hm2l hpw hszD hI9 hg9 HN8 hb9 hbz Hrg7 HFs hfit H78; go_wp2_with fail
         go_roundw
         case rel => exact ⟨i + 1, n2 + 1, by omega, by go_num, Hrg9, Hx, by omega, H79, hbw9⟩
         case measure => simp [intOf]; omega
       ·have hai : ((an : Int) == 0) = false := by have := Hbt.out.2 hbit; simp; omega
        have Hx := Lib.hid (HN6.out.congr fun m' _ => (show NyM SK F ss.length left m i m' ↔ NyM SK F ss.length left m (i + 1) m' from or_congr Iff.rfl (or_congr Iff.rfl (stp_no (.inl hbit)).symm)))
        clear hbit Hbt han1 HN6; show Code.wp _ (Code.region 13 o33_13 true) _ _ _
        refine region_start 13 (fun w' => True) (by kernel_rfl) rfl ?_ (fun hHeld => ?_)
        ·(trivial)
        refine take_to 0 42 (bQ 13 1) (v := ?_) o33_13_0 rfl o33_13_ns (by kernel_rfl) (by kernel_rfl) (fun _ _ _ h => h) (by rfl) ?y0a (by assumption) ?_
        case y0a => intro w h; (try dsimp only at h); go_simp; try with_reducible rfl
        simp only [sE0, sE1]; refine take_to 1 43 (bQ 13 3) (v := ?_) o33_13_1 rfl o33_13_ns (by kernel_rfl) (by kernel_rfl) (fun _ _ _ h => h) (by rfl) ?y1a (by assumption) ?_
        case y1a => intro w h; (try dsimp only at h); go_simp; try with_reducible rfl
        simp only [sE0, sE1]; refine take_to 2 44 (bQ 13 7) (v := .int .i64 (sh : Int)) o33_13_2 rfl o33_13_ns (by kernel_rfl) (by kernel_rfl) (fun _ _ _ h => h) (by rfl) ?y2a (by assumption) ?_
        case y2a =>
         intro w hSw; try dsimp only at hSw
         go_simp; exact Hsh.out
        simp only [sE0, sE1]; refine take_to 3 45 (bQ 13 15) (v := .int .i64 (an : Int)) o33_13_3 rfl o33_13_ns (by kernel_rfl) (by kernel_rfl) (fun _ _ _ h => h) (by rfl) ?y3a (by assumption) ?_
        case y3a =>
         intro w hSw; try dsimp only at hSw
         go_simp; exact Han.out
        simp only [sE0, sE1]; refine take_to 4 46 (bQ 13 31) (v := .bool false) o33_13_4 rfl o33_13_ns (by kernel_rfl) (by kernel_rfl) (fun _ _ _ h => h) (by rfl) ?y4a (by assumption) ?_
        case y4a =>
         intro w hSw; try dsimp only at hSw
         go_simp
        simp only [sE0, sE1]; refine take_to 5 47 (bQ 13 63) (v := ?_) o33_13_5 rfl o33_13_ns (by kernel_rfl) (by kernel_rfl) (fun _ _ _ h => h) (by rfl) ?y5a (by assumption) ?_
        case y5a => intro w h; (try dsimp only at h); go_simp; try with_reducible rfl
        simp only [sE0, sE1]; refine skip_to 6 48 (bQ 13 127) o33_13_6 rfl o33_13_ns (by kernel_rfl) (by kernel_rfl) (fun _ _ _ h => h) (by rfl) (by assumption) ?_
        simp only [sE0, sE1]; refine skip_to 7 49 (bQ 13 255) o33_13_7 rfl o33_13_ns (by kernel_rfl) (by kernel_rfl) (fun _ _ _ h => h) (by rfl) (by assumption) ?_
        simp only [sE0, sE1]; refine skip_to 8 50 (bQ 13 511) o33_13_8 rfl o33_13_ns (by kernel_rfl) (by kernel_rfl) (fun _ _ _ h => h) (by rfl) (by assumption) ?_
        simp only [sE0, sE1]; refine skip_to 9 51 (bQ 13 1023) o33_13_9 rfl o33_13_ns (by kernel_rfl) (by kernel_rfl) (fun _ _ _ h => h) (by rfl) (by assumption) ?_
        simp only [sE0, sE1]; refine skip_to 10 52 (bQ 13 2047) o33_13_10 rfl o33_13_ns (by kernel_rfl) (by kernel_rfl) (fun _ _ _ h => h) (by rfl) (by assumption) ?_
        simp only [sE0, sE1]; refine skip_to 11 53 (bQ 13 4095) o33_13_11 rfl o33_13_ns (by kernel_rfl) (by kernel_rfl) (fun _ _ _ h => h) (by rfl) (by assumption) ?_
        simp only [sE0, sE1]; refine take_to 12 54 (bQ 13 8191) (v := ?_) o33_13_12 rfl o33_13_ns (by kernel_rfl) (by kernel_rfl) (fun _ _ _ h => h) (by rfl) ?y12a (by assumption) ?_
        case y12a => intro w h; (try dsimp only at h); go_simp; try with_reducible rfl
        simp only [sE0, sE1]; refine wpAnyH_done (by kernel_rfl) ?_ _
        have hbz := hb0; have Hrg7 := Lib.hid (Hrg6.out.kept (gb_below hbz none) (by simp) (by simp))
        have hb9 := hb6.trans (hbz.mono hb6.size); have H78 := Lib.hid (keep_heap H7.out hbz); replace Hx := Lib.hid (Hx.out.below hbz); clear hHeld HS Hrg6 H7; go_wp2_with fail
        go_roundw
        case rel => exact ⟨i + 1, n2, by omega, by go_num, Hrg7, Hx, by omega, H78, hb9⟩
        case measure => simp [intOf]; omega
      ·obtain rfl : i = ss.length := by omega
       have HE := Lib.hid (HN6.out.congr fun m' _ => nym_end hm64 HSm.out Hlk.out)
       clear HN6; go_wp2_with fail
       go_roundw
       case rel => exact ⟨_, cnt5, n2, Hrg6, by omega, HE, by omega, H7, hb6⟩
       case measure => rw [Hrg6.out.left_eq, Hrg.out.left_eq]; exact hlt5
  ·obtain rfl : k = cs.length := by omega
   obtain ⟨D, hown, hD, hSD⟩ := HI.out; obtain ⟨SF, HSF⟩ : ∃ SF : Nat → Prop, Hid (SF = fun m => Rcl (fitK cs ss) ss.length (List.range cs.length) m) := ⟨_, Lib.hid rfl⟩
   have HSD := Lib.hid (show ∀ l, Maps.has D l = true ↔ ∃ m, m < 64 ∧ SF m ∧ l = litN m from fun l => by rw [HSF.out]; exact hSD l)
   obtain ⟨i0, hi0, hz0, hz1, hz2⟩ := info_parts info_str; have HII := Lib.hid hi0; clear hSD HI hi0; go_wp2_with (first | (at_range; refine wpList_range_own _ rfl _ 124 rfl 3 4 lawI Tryz.underlying124 _ b _ _ rfl hown ?_; intro w3 hrg3 hg3 hs3) | go_in)
   go_frame
   have hb3 : Below W2.heap.size W2 w3 := hb.grown hg3 hb.size (by simp)
   have hwr : W2.heap.size ≤ wo.heap.size := hb.size
   generalize wo.heap.size = r at hrg3 hwr ⊢
   clear hown hg3 hs3 hb; go_loopw [11, 12] (fun bv mv w4 => ∃ (left : Lit → Bool) (cnt bst : Nat) (most : Int), bv = .int .i64 (bst : Int) ∧ mv = .int .i64 most ∧ Hid (w4.ranges Tryz.prog 3 heldR b r (7 ^ cs.length) D left cnt) ∧ Hid (BstI SF ss.length left bst most) ∧ Below W2.heap.size W2 w4) (fun _ _ w4 => w4.rangeLeft b r)
   case atStart => exact ⟨_, _, 0, -1, rfl, rfl, Lib.hid hrg3, Lib.hid (bst_start fun m a s => (HSD.out _).2 ⟨m, a, s, rfl⟩), hb3⟩
   case round =>
    clear hrg3 hb3; obtain ⟨left, cnt, bst, most, rfl, rfl, Hrg, HBI, hb4⟩ := hrel; go_wp2_with (first | (at_next; refine wpList_next_ranges _ rfl _ rfl 3 lawI heldR (fun x : Int => Value.int .i64 x) (fun v : Value => v) ?iK ?iV b r _ D left cnt rfl Hrg.out ?_ ?_) | go_in)
    case iK => intro key kl h; obtain ⟨x, rfl, _⟩ := Maps.keyOf_int_inv Tryz.underlying3 h; exact ⟨x, rfl⟩
    case iV => intro v y h; exact ⟨v, rfl⟩
    ·intro hc0 hl0
     have hfin := lack_final (cs := cs) (ss := ss) hm hl0 (by have := HBI.out; rw [HSF.out] at this; exact this)
     have HO := Lib.hid (outK_lkL hfin); have hb64 := HBI.out.1; have x2 := HX2.out wr hb4; clear hfin Hrg HBI; go_wp2_with fail
     clear x2; go_loopw [18, 104] (fun ov idx w6 => ∃ i : Nat, i ≤ ss.length ∧ idx = .int .i64 (i : Int) ∧ Hid (w6.ownsRow W2.heap.size 9 1 ov (outK ss bst i).length ((outK ss bst i).map .string)) ∧ Below W2.heap.size W2 w6) (fun _ idx _ => ss.length - (intOf idx).toNat)
     case atStart => exact ⟨0, Nat.zero_le _, rfl, Lib.hid (by simpa [outK] using World.ownsRow_nil _ _ _ _), hb4⟩
     case round =>
      clear hb4; obtain ⟨i, hi, rfl, Hown, hb⟩ := hrel; by_cases hlt : i < ss.length
      ·have hlt' : (i : Int) < (ss.length : Int) := by omega
       have hs : ss[i]? = some ss[i] := List.getElem?_eq_getElem hlt
       generalize ss[i] = s at hs
       obtain ⟨_, _, p0, _, _⟩ := HSl.out wr hb i s hs; have x2 := HX2.out wr hb; obtain ⟨sh, hsh⟩ : ∃ sh, sh = bst >>> i := ⟨_, rfl⟩
       have e1 : (bst : Int) / 2 ^ i = (sh : Int) := by rw [hsh, Nat.shiftRight_eq_div_pow]; push_cast; rfl
       have hshu : sh < 64 := by rw [hsh, Nat.shiftRight_eq_div_pow]; exact Nat.lt_of_le_of_lt (Nat.div_le_self _ _) hb64
       obtain ⟨an, han⟩ : ∃ an, an = sh &&& 1 := ⟨_, rfl⟩
       have e2 : bits .and .i64 (sh : Int) 1 = (an : Int) := by rw [han]; exact bits_and64 sh 1 hshu (by omega)
       have hbv := bit_val bst i; rw [← hsh, ← han] at hbv
       have Ho := outK_succ ss bst i; rw [slAt_some hs] at Ho
       have hl := outK_len ss bst i; clear hsh han hshu hs; cases hbt : bst.testBit i
       ·rw [hbt, if_neg (by simp)] at hbv Ho
        have HOo := Lib.hid Ho; have hai : ((an : Int) == 0) = true := by simp; omega
        have hi1 := HII.out; have hsz := hb.size; clear hbt Ho hbv; go_wp2_with (at_builtin; refine wpList_append_own _ rfl _ _ 39 rfl W2.heap.size 9 i0 (.string ⟨#[]⟩) 1 16 Tryz.underlying39 hi1 hz0 hz1 hz2 rfl (by decide) _ _ _ rfl (Hown.out.alloc _) ⟨wr.heap.size, 0, none⟩ 1 1 [.string s.key] rfl rfl ?c1 ?c2 ?c3 ?c4 ?c5 ?_)
        case c1 => exact cells_new _ _ _
        case c2 => simp [Value.oneCell']
        case c3 => unfold maxLen; omega
        case c4 => omega
        case c5 => simp; omega
        intro v' w8 hown8 hgrow _; clear hi1 e1 e2 p0 x2 hai; go_wp2_with fail
        go_roundw
        case rel =>
         refine ⟨i + 1, by omega, by go_num, Lib.hid ?_, (below_step hb (below_alloc wr _)).grown hgrow (by simp; omega) fun r hr => (own_block Hown.out r hr).1⟩
         rw [HOo.out, List.length_append, List.map_append]; exact hown8
        case measure => simp [intOf]; omega
       ·rw [hbt, if_pos rfl] at hbv Ho
        have hai : ((an : Int) == 0) = false := by simp; omega
        have HOo := Lib.hid (show outK ss bst (i + 1) = outK ss bst i by rw [Ho, List.append_nil])
        clear hbt Ho hbv; go_wp2_with fail
        go_roundw
        case rel => exact ⟨i + 1, by omega, by go_num, Lib.hid (by rw [HOo.out]; exact Hown.out), hb⟩
        case measure => simp [intOf]; omega
      ·obtain rfl : i = ss.length := by omega
       have hst := strs_of_owns Hown.out (by have := outK_len ss bst ss.length; omega)
       clear Hown; go_wp2_with fail
       go_ret
       exact ⟨_, rfl, by rw [← HO.out]; exact hst.mono (Nat.zero_le _), below_step HbW.out hb⟩
    ·intro x vv kl y ps w5 cnt5 hkey hlk hR hat hrg5 hlt5 hg5 hs5 hen
     have hh : Maps.has D kl = true := by
      cases h : Maps.has D kl with
      | true => rfl
      | false =>
       have h1 := hat (.map []); rw [Maps.atKey_of_not_has h] at h1
       cases hR
       cases h1
     obtain ⟨m, hm64, hSm, rfl⟩ := (HSD.out kl).1 hh
     obtain rfl : x = (m : Int) := by
      obtain ⟨x', ex, h2, _⟩ := Maps.keyOf_int_inv Tryz.underlying3 hkey; cases ex
      unfold litN at h2
      injection h2 with _ h2
      exact h2.symm
     have hb5 : Below W2.heap.size W2 w5 := hb4.grown hg5 hb4.size (fun r' e => by cases e; exact hwr)
     have x2 := HX2.out w5 hb5; have CF := Lib.hid (fun (q : Nat) (hq : q < 64) w' (hb' : Below W2.heap.size W2 w') => filled_calls ss.length X2 q sk (some ⟨sg, so, none⟩) w' (HX2.out w' hb') hm hq)
     have Hrg5 := Lib.hid hrg5; have hb64 := HBI.out.1; have Hnew := Lib.hid (fun h => bst_new hm64 hSm HBI.out h)
     have Hkeep := Lib.hid (fun h => bst_keep hSm hlk hm64 HBI.out h)
     clear hkey hR hat hrg5 hg5 hs5 hh hlk hSm HBI hb4 x2; go_wp2_with fail
     clear hen; refine (CF.out m hm64 w5 hb5).mono ?_; rintro e w6 ⟨nv, rfl, hnv, hb6⟩; obtain ⟨na, nc, rfl⟩ := nums_shape hnv; rw [bitsL_len]; have Hnv := Lib.hid (fun w' (hb' : Below w6.heap.size w6 w') => (show Nums w' w5.heap.size (.slice na ss.length nc) (bitsL ss.length m) from by have h := Rows.below hnv hb'; rw [bitsL_len] at h; exact h))
     have Hrg6 := Lib.hid (Hrg5.out.kept (gb_below hb6 none) (by simp) (by simp))
     have hb56 := hb5.trans (hb6.mono hb5.size); clear hnv hb6 Hrg5 hb5; go_wp2_with fail
     go_loopw [15, 74] (fun sv idx w7 => ∃ j : Nat, j ≤ ss.length ∧ idx = .int .i64 (j : Int) ∧ sv = .int .i64 ((((bitsL ss.length m).take j).sum : Nat) : Int) ∧ w7 = w6) (fun _ idx _ => ss.length - (intOf idx).toNat)
     case atStart => exact ⟨0, Nat.zero_le _, rfl, rfl, rfl⟩
     case round =>
      obtain ⟨j, hj, rfl, rfl, rfl⟩ := hrel; have hbl := bitsL_len ss.length m; by_cases hjlt : j < ss.length
      ·have hjlt' : (j : Int) < (ss.length : Int) := by omega
       obtain ⟨y, hy⟩ : ∃ y, (bitsL ss.length m)[j]? = some y := ⟨_, List.getElem?_eq_getElem (by omega)⟩
       have hy1 := bitsL_le ss.length m y (List.mem_of_getElem? hy); have Hsum := Lib.hid (show ((bitsL ss.length m).take (j + 1)).sum = ((bitsL ss.length m).take j).sum + y by rw [List.take_add_one, hy]; simp)
       have hS := sum_le_len (l := (bitsL ss.length m).take j) fun x hx => bitsL_le ss.length m x (List.mem_of_mem_take hx)
       rw [List.length_take] at hS
       rcases nums_at (Hnv.out wr (Below.refl _ _)) with ⟨_, h⟩ | ⟨g, off, cap, e, _, _, _, hcell⟩
       ·rw [h] at hbl; simp at hbl; omega
       rw [hbl] at e
       have hc0 := hcell j y hy; simp only [Value.slice.injEq] at e
       obtain ⟨rfl, -, rfl⟩ := e; generalize ((bitsL ss.length m).take j).sum = S at Hsum hS ⊢
       have hw : IntKind.i64.wrap ((S : Int) + (y : Int)) = (S : Int) + (y : Int) := wrap_small (by omega) (by omega)
       clear hcell hy hbl; go_wp2_with fail
       go_roundw
       case rel => exact ⟨j + 1, by omega, by go_num, by rw [Hsum.out]; push_cast; rfl, by first | trivial | rfl⟩
       case measure => simp [intOf]; omega
      ·obtain rfl : j = ss.length := by omega
       have hpop : ((bitsL ss.length m).take ss.length).sum = popB ss.length m := by unfold popB; rw [List.take_of_length_le (by omega)]
       rw [hpop]; clear hpop hbl Hnv; generalize popB ss.length m = pm at Hnew Hkeep ⊢
       by_cases h1 : most < (pm : Int)
       ·have HN := Lib.hid (Hnew.out (.inl h1))
        clear Hnew Hkeep; go_wp2_with fail
        go_roundw
        case rel => exact ⟨_, cnt5, m, pm, rfl, rfl, Hrg6, HN, hb56⟩
        case measure => rw [Hrg6.out.left_eq, Hrg.out.left_eq]; exact hlt5
       ·by_cases h2 : most = (pm : Int)
        ·subst h2
         have e2 : ((pm : Int) == (pm : Int)) = true := by simp
         go_wp2_with fail
         refine (CF.out m hm64 wr hb56).mono ?_; rintro e w7 ⟨v1, rfl, hv1, hb7⟩; have hb57 := hb56.trans (hb7.mono hb56.size); go_wp2_with fail
         refine (CF.out bst hb64 w7 hb57).mono ?_; rintro e w8 ⟨v2, rfl, hv2, hb8⟩; have hb58 := hb57.trans (hb8.mono hb57.size); have CC := Lib.hid (compareN_calls _ _ _ _ _ _ w8 (Rows.below hv1 hb8) hv2); have Hrg8 := Lib.hid ((Hrg6.out.kept (gb_below hb7 none) (by simp) (by simp)).kept (gb_below hb8 none) (by simp) (by simp))
         generalize cmpN (bitsL ss.length m) (bitsL ss.length bst) = q at CC Hnew Hkeep
         clear hv1 hv2 hb7 hb8 hb57 hb56 Hrg6; go_wp2_with fail
         refine CC.out.mono ?_; rintro e w9 ⟨rfl, rfl⟩; by_cases hq : 0 < q
         ·have HN := Lib.hid (Hnew.out (.inr ⟨by first | trivial | rfl, hq⟩))
          clear Hnew Hkeep CC; go_wp2_with fail
          go_roundw
          case rel => exact ⟨_, cnt5, m, pm, rfl, rfl, Hrg8, HN, hb58⟩
          case measure => rw [Hrg8.out.left_eq, Hrg.out.left_eq]; exact hlt5
         ·have HN := Lib.hid (Hkeep.out (fun h => h.elim (fun h' => absurd h' (Int.lt_irrefl _)) fun h => hq h.2))
          clear Hnew Hkeep CC; go_wp2_with fail
          go_roundw
          case rel => exact ⟨_, cnt5, bst, (pm : Int), rfl, rfl, Hrg8, HN, hb58⟩
          case measure => rw [Hrg8.out.left_eq, Hrg.out.left_eq]; exact hlt5
        ·have HN := Lib.hid (Hkeep.out (fun h => h.elim h1 fun h => h2 h.1))
         have e2 : ((pm : Int) == most) = false := by rw [beq_eq_false_iff_ne]; exact fun h => h2 h.symm
         clear Hnew Hkeep; go_wp2_with fail
         go_roundw
         case rel => exact ⟨_, cnt5, bst, most, rfl, rfl, Hrg6, HN, hb56⟩
         case measure => rw [Hrg6.out.left_eq, Hrg.out.left_eq]; exact hlt5
end Go.Proofs.YtfcaokpadodijaaGreat
