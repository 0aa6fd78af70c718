/- Right sides and fills: what is so of them; the best one is that of all ways. Plain facts. -/
import Derived.Test.YtfcaokpadodijaaGreatMgat
import Derived.Test.YtfcaokpadodijaaGreatMgau
import Derived.Test.YtfcaokpadodijaaGreatMgax
import Derived.Test.YtfcaokpadodijaaGreatMgaw
import Derived.Test.YtfcaokpadodijaaGreatMgaq
import Derived.Deep.Upon
import Derived.Test.YtfcaokpadodijaaGreatMgac
import Derived.Test.YtfcaokpadodijaaGreatMgap
import Derived.Test.YtfcaokpadodijaaGreatMgam
/- The reference's search for the best line-up: what it keeps in memory. -/
namespace Go.Proofs.YtfcaokpadodijaaGreat
open Go.RowKit Go.Proofs.YtfcaokpadodijaaGreat.Mat

/-- Strings appended to a row of one string that is full. -/
theorem run_append_full (w : World) (ty g lo : Nat) (k : ByteArray) (xv : Value) (ks : List ByteArray) (hg : w.heap[g]? = some (.cells #[.string k] 9 (0, 0))) (hks : Strs w lo xv ks) (hn : ks.length ≤ 1000) :
  ∃ v' w', (Builtin.append_ #[39, 39] ty #[.slice (some ⟨g, 0, none⟩) 1 1, xv]).run Tryz.prog w = .ok v' w' ∧ Strs w' g v' (k :: ks) ∧ Below w.heap.size w w' := by
 obtain ⟨i0, hi, hz0, hz1, hz2⟩ := info_parts info_str
 have hgl := lt_of_heap hg
 have hown : w.ownsRow g 9 1 (.slice (some ⟨g, 0, none⟩) 1 1) 1 [.string k] := ⟨rfl, .inr ⟨g, 1, #[.string k], rfl, Nat.le_refl _, hg, Nat.le_refl _, by unfold maxLen; omega, rfl, rfl⟩⟩
 have same : ks = [] → Src Tryz.prog i0.size 39 xv 0 [] w → ∃ v' w', (Builtin.append_ #[39, 39] ty #[.slice (some ⟨g, 0, none⟩) 1 1, xv]).run Tryz.prog w = .ok v' w' ∧ Strs w' g v' (k :: ks) ∧ Below w.heap.size w w' := fun h0 hS => by
  subst h0; exact ⟨_, w, run_append_nothing (P := Tryz.prog) w 39 39 ty 9 i0 Tryz.underlying39 hi (some ⟨g, 0, none⟩) 1 1 (Nat.le_refl _) xv hS, strs_of_owns (by simpa using hown) (by simp), Below.refl _ _⟩
 rcases hks.shape with ⟨rfl, h0⟩ | ⟨b, off, cap, cur, fr, rfl, hlc, hb, hc⟩
 ·exact same (by simpa using h0) (Src.ofNil w Tryz.underlying39 0)
 ·simp only [List.length_map] at hlc ⊢
  have hnews : ∀ j u, (ks.map Value.string)[j]? = some u → w.cell? ((⟨b, off, none⟩ : Addr).add j) = some u := by
   intro j u hu; have hadd : (⟨b, off, none⟩ : Addr).add j = ⟨b, off + j, none⟩ := by unfold Addr.add; split <;> simp_all
   rw [hadd, cell_of_row w b _ cur _ fr hb]; rw [List.getElem?_map] at hu
   obtain ⟨f, hf, rfl⟩ := Option.map_eq_some_iff.1 hu; have h3 := hc j 0 (.string f) (by simp [hf])
   simpa using h3
  rcases Nat.eq_zero_or_pos ks.length with h0 | h0
  ·obtain rfl := List.eq_nil_of_length_eq_zero h0
   exact same rfl (Src.ofSlice w Tryz.underlying39 ⟨b, off, none⟩ 0 cap [] (by simp) (fun j u hu => by simp at hu) (fun u hu => by cases hu))
  ·have hr := run_append_grow (P := Tryz.prog) w 39 ty 9 i0 (.string ⟨#[]⟩) Tryz.underlying39 hi hz0 ⟨g, 0, none⟩ 1 1 [.string k] (by rw [hz1]; rfl) (hown.cells (g := g) rfl) ⟨b, off, none⟩ ks.length cap (ks.map .string) (by rw [hz1]; simp) hnews (by omega) (by omega) (growslice_fits (by omega) (by rw [hz2]; omega))
   have hge := grownCap_ge w (1 + ks.length) 1 9; have hcm := grownCap_le_maxLen w (1 + ks.length) 1 9 (by unfold maxLen; omega)
   refine ⟨_, _, hr, ?_, ?_⟩
   ·have hl : (k :: ks).length = 1 + ks.length := by rw [List.length_cons]; omega
    have : (w.drew.alloc (.cells (#[Value.string k] ++ (ks.map Value.string).toArray ++ Builtin.zeroCells (Value.string ⟨#[]⟩).cells (grownCap w (1 + ks.length) 1 9 - (1 + ks.length))) 9)).ownsRow g 9 1 (.slice (some ⟨w.heap.size, 0, none⟩) (1 + ks.length) (grownCap w (1 + ks.length) 1 9)) (1 + ks.length) ((k :: ks).map .string) := by
     refine ⟨by simp; omega, .inr ⟨w.heap.size, _, _, rfl, by omega, heap_alloc_new w.drew _, hge, hcm, ?_, ?_⟩⟩
     ·simp only [Array.size_append, List.size_toArray, size_zeroCells, List.length_map]
      show 1 + ks.length + (grownCap w (1 + ks.length) 1 9 - (1 + ks.length)) * 1 = _
      omega
     ·simp only [Array.toList_append]
      have e2 : (1 + ks.length) * 1 = (([Value.string k] : List Value) ++ ks.map Value.string).length := by simp; omega
      show List.take ((1 + ks.length) * 1) (([Value.string k] ++ ks.map Value.string) ++ _) = _
      rw [e2]; exact List.take_left
    have h2 := strs_of_owns (ks := k :: ks) (by rw [hl]; exact this) (by simp; omega)
    exact h2
   ·exact ((Below.refl w.heap.size w).drew).alloc (Nat.le_refl _) _
theorem wp_append_full {o : Oper} {a : Act} {K : Act → World → Prop} {Q : Exit → Act → World → Prop} (w : World) (s x : Operand)
  (ho : o.op = .call { callee := .builtin .append, args := #[s, x], argTypes := #[39, 39] }) (g lo : Nat) (k : ByteArray) (xv : Value) (ks : List ByteArray)
  (hs : a.eval s = .slice (some ⟨g, 0, none⟩) 1 1) (hx : a.eval x = xv) (hg : w.heap[g]? = some (.cells #[.string k] 9 (0, 0))) (hks : Strs w lo xv ks) (hn : ks.length ≤ 1000)
  (h : ∀ v' w', Strs w' g v' (k :: ks) → Below w.heap.size w w' → K (a.put o.dst v') w') : Oper.wp Tryz.prog o a w K Q := by
 obtain ⟨v', w', hr, h2, h3⟩ := run_append_full w o.type g lo k xv ks hg hks hn
 unfold Oper.wp execOp
 simp only [ho, resolve, invoke, builtin, Sem.run_bind, Sem.run_pure, Result.andThen_ok, List.map_toArray, List.map_cons, List.map_nil, hs, hx, hr]
 exact h v' w' h2 h3
theorem strs_far {w : World} {lo X T o : Nat} {v u : Value} {ks : List ByteArray} {cur : Array Value} (h : Strs w lo v ks) (hX : w.heap[X]? = some (.cells cur T (0, 0))) (hT : T ≠ 9) : Strs (w.setCell ⟨X, o, none⟩ u) lo v ks :=
 Rows.lift h fun g c fr _ hg => Below.heap_setCell w _ _ _ (by
  show g ≠ X
  rintro rfl; rw [hX] at hg
  cases hg
  exact hT rfl)
theorem lu_ne : 103 ≠ 9 := by decide
/-- A line-up is put into its box. -/
theorem set_lu {w : World} {X : Nat} {a0 b0 c0 : Value} (h : w.heap[X]? = some (.cells #[a0, b0, c0] 103 (0, 0))) (a b c : Value) :
  ∃ W, ((w.setCell ⟨X, 0, none⟩ a).setCell ⟨X, 1, none⟩ b).setCell ⟨X, 2, none⟩ c = W ∧ W.heap[X]? = some (.cells #[a, b, c] 103 (0, 0)) ∧ (∀ (g : Nat) (o : Obj), w.heap[g]? = some o → g ≠ X → W.heap[g]? = some o) ∧
   (∀ (lo : Nat) (x : Value) (ks : List ByteArray), Strs w lo x ks → Strs W lo x ks) ∧ w.grownBy W (some X) := by
 have h1 := set_cells (o := 0) h a
 have h2 := set_cells (o := 1) h1 b
 have h3 := set_cells (o := 2) h2 c
 refine ⟨_, rfl, h3, fun g o hg hne => heap_far (heap_far (heap_far hg hne) hne) hne, fun lo x ks hs => strs_far (strs_far (strs_far hs h lu_ne) h1 lu_ne) h2 lu_ne, gb_trans (gb_trans (gb_setCell w X 0 a) (gb_setCell _ X 1 b)) (gb_setCell _ X 2 c)⟩

/-- Can a scorer be used at all? -/
def elR (cs : List ScD) (k : Nat) : Bool := decide (0 < (scAt cs k).num)
/-- The best of the slots from number i on, where those of u are used. -/
def luN (cs : List ScD) (ss : List SlD) (i u : Nat) : LN := dp cs.length (fitS cs ss) (elR cs) (wAt cs) (ss.length - i) i u
def luD (cs : List ScD) (x : LN) : LuD := ⟨x.sum, x.many, x.who.map (nameOf cs)⟩
/-- The reference's round, for number k. -/
def luF (cs : List ScD) (ss : List SlD) (i u : Nat) : LN → Nat → LN := pickB (okK (fitS cs ss) (elR cs) i u) fun k => candK (wAt cs) (luN cs ss (i + 1) (u ||| (1 <<< k))) k
def nobodyK (r : LN) : LN := ⟨r.sum, r.many, 0 :: r.who⟩
theorem luN_end (cs : List ScD) (ss : List SlD) (u : Nat) : luN cs ss ss.length u = ⟨0, 0, []⟩ := by unfold luN; rw [Nat.sub_self]; rfl
theorem luN_step {cs : List ScD} {ss : List SlD} {i u : Nat} (h : i < ss.length) : luN cs ss i u = (List.range' 0 (cs.length - 0)).foldl (luF cs ss i u) (nobodyK (luN cs ss (i + 1) u)) := by
 unfold luN luF
 rw [show ss.length - i = (ss.length - (i + 1)) + 1 by omega, Nat.sub_zero, ← List.range_eq_range']
 rfl
theorem wAt_small {cs : List ScD} (hf : ∀ c ∈ cs, FitW c) (k : Nat) : -1000000 ≤ wAt cs k ∧ wAt cs k ≤ 1000000 := by
 unfold wAt scAt
 cases h : cs[k]? with
 | none => exact ⟨by decide, by decide⟩
 | some c => exact wth_small (hf c (List.mem_of_getElem? h))
theorem sumN_small {w : Nat → Int} (h : ∀ k, -1000000 ≤ w k ∧ w k ≤ 1000000) : ∀ xs : List Nat, -(1000000 * (xs.length : Int)) ≤ sumN w xs ∧ sumN w xs ≤ 1000000 * (xs.length : Int)
 | [] => by simp [sumN]
 | x :: xs => by
  have ih := sumN_small h xs; have h1 : -1000000 ≤ wN w x ∧ wN w x ≤ 1000000 := by unfold wN; split; (· omega); (· exact h _)
  rw [sumN, List.length_cons]; push_cast
  omega
theorem dp_many {n : Nat} {fit : Nat → Nat → Bool} {el : Nat → Bool} {w : Nat → Int} : ∀ (d i u : Nat), (dp n fit el w d i u).many ≤ d
 | 0, _, _ => Nat.le_refl _
 | d + 1, i, u => by
  have hd : dp n fit el w (d + 1) i u = (List.range n).foldl (pickB (okK fit el i u) fun k => candK w (dp n fit el w d (i + 1) (u ||| (1 <<< k))) k) ⟨(dp n fit el w d (i + 1) u).sum, (dp n fit el w d (i + 1) u).many, 0 :: (dp n fit el w d (i + 1) u).who⟩ := rfl
  have hfm := (foldl_max (ok := okK fit el i u) (c := fun k => candK w (dp n fit el w d (i + 1) (u ||| (1 <<< k))) k) (List.range n) ⟨(dp n fit el w d (i + 1) u).sum, (dp n fit el w d (i + 1) u).many, 0 :: (dp n fit el w d (i + 1) u).who⟩).2.2
  rw [← hd] at hfm
  rcases hfm with e | ⟨k, _, _, e⟩
  ·rw [e]; have := dp_many (n := n) (fit := fit) (el := el) (w := w) d (i + 1) u; show (dp n fit el w d (i + 1) u).many ≤ d + 1; omega
  ·rw [e]; have := dp_many (n := n) (fit := fit) (el := el) (w := w) d (i + 1) (u ||| (1 <<< k)); show (dp n fit el w d (i + 1) (u ||| (1 <<< k))).many + 1 ≤ d + 1; omega
/-- What is so of every line-up: small numbers, and names. -/
structure LuOk (cs : List ScD) (d : Nat) (x : LN) : Prop where
 s1 : -(1000000 * (d : Int)) ≤ x.sum
 s2 : x.sum ≤ 1000000 * (d : Int)
 many : x.many ≤ d
 len : x.who.length = d
 low : ∀ y ∈ x.who, y ≤ cs.length
theorem luN_ok {cs : List ScD} {ss : List SlD} (hf : ∀ c ∈ cs, FitW c) (i u : Nat) : LuOk cs (ss.length - i) (luN cs ss i u) := by
 obtain ⟨h1, h2, h3⟩ := dp_sum (n := cs.length) (fit := fitS cs ss) (el := elR cs) (w := wAt cs) (ss.length - i) i u
 have h4 := sumN_small (wAt_small hf) (dp cs.length (fitS cs ss) (elR cs) (wAt cs) (ss.length - i) i u).who
 have h5 := dp_many (n := cs.length) (fit := fitS cs ss) (el := elR cs) (w := wAt cs) (ss.length - i) i u
 unfold luN
 refine ⟨by omega, by omega, by omega, h2, h3⟩
theorem LuOk.nobody {cs : List ScD} {d : Nat} {r : LN} (h : LuOk cs d r) : LuOk cs (d + 1) (nobodyK r) := by
 obtain ⟨h1, h2, h3, h4, h5⟩ := h
 refine ⟨?_, ?_, ?_, by simp [nobodyK, h4], fun y hy => ?_⟩
 ·show _ ≤ r.sum; push_cast; omega
 ·show r.sum ≤ _; push_cast; omega
 ·show r.many ≤ _; omega
 ·rcases List.mem_cons.1 hy with rfl | hy
  ·exact Nat.zero_le _
  ·exact h5 y hy
theorem LuOk.cand {cs : List ScD} {d k : Nat} {r : LN} (h : LuOk cs d r) (hf : ∀ c ∈ cs, FitW c) (hk : k < cs.length) : LuOk cs (d + 1) (candK (wAt cs) r k) := by
 obtain ⟨h1, h2, h3, h4, h5⟩ := h
 have hw := wAt_small hf k
 refine ⟨?_, ?_, ?_, by simp [candK, h4], fun y hy => ?_⟩
 ·show _ ≤ r.sum + wAt cs k; push_cast; omega
 ·show r.sum + wAt cs k ≤ _; push_cast; omega
 ·show r.many + 1 ≤ _; omega
 ·rcases List.mem_cons.1 hy with rfl | hy
  ·omega
  ·exact h5 y hy
theorem lu_cells {w : World} {X : Nat} {a b c : Value} (h : w.heap[X]? = some (.cells #[a, b, c] 103 (0, 0))) : w.cell? ⟨X, 0, none⟩ = some a ∧ w.cell? ⟨X, 1, none⟩ = some b ∧ w.cell? ⟨X, 2, none⟩ = some c := ⟨cell_at h 0 rfl, cell_at h 1 rfl, cell_at h 2 rfl⟩
theorem wrap_nat (n : Nat) (h : n < 64) : IntKind.i64.wrap (n : Int) = (n : Int) := by
 have : ∀ m : Fin 64, IntKind.i64.wrap ((m : Nat) : Int) = ((m : Nat) : Int) := by decide
 exact this ⟨n, h⟩
theorem wrap_small {x : Int} (h1 : -9000000 ≤ x) (h2 : x ≤ 9000000) : IntKind.i64.wrap x = x := by
 unfold IntKind.wrap
 simp [IntKind.bits, IntKind.signed]
 omega
theorem bits_and64 (a b : Nat) (ha : a < 64) (hb : b < 64) : bits .and .i64 (a : Int) (b : Int) = ((a &&& b : Nat) : Int) := by
 have hx : a &&& b < 2 ^ 6 := Nat.and_lt_two_pow _ (by omega)
 have h := and_nat a b (by omega) (by omega)
 show IntKind.i64.wrap ((BitVec.ofInt 64 (a : Int) &&& BitVec.ofInt 64 (b : Int)).toNat : Int) = _
 rw [h]
 exact wrap_nat _ hx
theorem bits_or64 (a b : Nat) (ha : a < 64) (hb : b < 64) : bits .or .i64 (a : Int) (b : Int) = ((a ||| b : Nat) : Int) := by
 have hx : a ||| b < 2 ^ 6 := Nat.or_lt_two_pow (by omega) (by omega)
 have h := or_nat a b (by omega) (by omega)
 show IntKind.i64.wrap ((BitVec.ofInt 64 (a : Int) ||| BitVec.ofInt 64 (b : Int)).toNat : Int) = _
 rw [h]
 exact wrap_nat _ hx
theorem bet_lu {cs : List ScD} {d : Nat} {x y : LN} (hs : SortedK (cs.map ScD.who)) (hk : ∀ c ∈ cs, keyB c.who = true) (hx : LuOk cs d x) (hy : LuOk cs d y) : betS (luD cs x) (luD cs y) = better x y := by
 unfold betS better luD
 dsimp only
 rw [lex_names hs hk x.who y.who hx.low hy.low (by rw [hx.len, hy.len])]
theorem luF_no {cs : List ScD} {ss : List SlD} {i u k : Nat} {b : LN} (h : okK (fitS cs ss) (elR cs) i u k = false) : luF cs ss i u b k = b := by unfold luF pickB; rw [h]; rfl
theorem luF_yes {cs : List ScD} {ss : List SlD} {i u k : Nat} {b : LN} (h : okK (fitS cs ss) (elR cs) i u k = true) : luF cs ss i u b k = if better (candK (wAt cs) (luN cs ss (i + 1) (u ||| (1 <<< k))) k) b then candK (wAt cs) (luN cs ss (i + 1) (u ||| (1 <<< k))) k else b := by unfold luF pickB; rw [h]; simp
theorem fold_cons {f : LN → Nat → LN} {R b : LN} {k P : Nat} (h : k < P) (hR : R = (List.range' k (P - k)).foldl f b) : R = (List.range' (k + 1) (P - (k + 1))).foldl f (f b k) := by rw [hR, range_cons' h, List.foldl_cons]
/-- What the memo holds. -/
def QF (cs : List ScD) (ss : List SlD) (B : Nat) (w : World) (i u : Nat) (v : Value) : Prop := ∃ x, v = luV (luD cs (luN cs ss i u)) x ∧ Strs w (B + 1) x (luD cs (luN cs ss i u)).who
def MQ (cs : List ScD) (ss : List SlD) (B n : Nat) (w : World) : Prop := MemoQ w B n (QF cs ss B w)
section
variable {cs : List ScD} {ss : List SlD} {B n : Nat} {w w' : World}
theorem MQ.step {row : Option Nat} (h : MQ cs ss B n w) (hg : w.grownBy w' row) (hne : some B ≠ row) (hs : ∀ (lo : Nat) (x : Value) (ks : List ByteArray), Strs w lo x ks → Strs w' lo x ks) : MQ cs ss B n w' :=
 (MemoQ.kept h hg hne).mono (Nat.le_refl _) fun _ _ _ ⟨x, e, s⟩ => ⟨x, e, hs _ _ _ s⟩
theorem MQ.below (h : MQ cs ss B n w) (hb : Below w.heap.size w w') : MQ cs ss B n w' := h.step (gb_below hb none) (by simp) fun _ _ _ s => s.below hb
theorem MQ.drew (h : MQ cs ss B n w) : MQ cs ss B n w.drew := h.below ((Below.refl w.heap.size w).drew)
theorem MQ.lt (h : MQ cs ss B n w) : B < w.heap.size := MemoQ.lt h
theorem MQ.put (h : MQ cs ss B n w) (hn : n < 1000000) (i u : Nat) (hi : i ≤ 1000000) (hu : u ≤ 1000000) (x : Value) (hs : Strs w (B + 1) x (luD cs (luN cs ss i u)).who) :
  ∃ w', (Instr.mapUpdate 100 (.map (some B)) (k2 i u) (luV (luD cs (luN cs ss i u)) x)).run Tryz.prog w = .ok () w' ∧ MQ cs ss B (n + 1) w' ∧ w.grownBy w' (some B) := by
 obtain ⟨w', h1, h2, h3⟩ := MemoQ.put h hn i u hi hu (luV (luD cs (luN cs ss i u)) x) ⟨x, rfl, hs⟩
 exact ⟨w', h1, h2.mono (Nat.le_refl _) fun _ _ _ ⟨y, e, s⟩ => ⟨y, e, s.other h3 (by omega)⟩, h3⟩
end
end Go.Proofs.YtfcaokpadodijaaGreat
/- The reference's search for the best line-up: all ways tried, slot by slot, what was found is kept. -/
namespace Go.Proofs.YtfcaokpadodijaaGreat
open Go.RowKit Go.Proofs.YtfcaokpadodijaaGreat.Mat

/-- What the search reads. -/
structure FB (cs : List ScD) (ss : List SlD) (X2 X3 X4 X5 B sg so sk : Nat) (la : Option Addr) (lc : Nat) (w : World) : Prop where
 x2 : w.cell? ⟨X2, 0, none⟩ = some (.slice (some ⟨sg, so, none⟩) ss.length sk)
 x3 : w.cell? ⟨X3, 0, none⟩ = some (.map (some B))
 x4 : w.cell? ⟨X4, 0, none⟩ = some (.func (.func 65) #[] #[.pointer (some ⟨X2, 0, none⟩), .pointer (some ⟨X3, 0, none⟩), .pointer (some ⟨X4, 0, none⟩), .pointer (some ⟨X5, 0, none⟩)])
 x5 : w.cell? ⟨X5, 0, none⟩ = some (.slice la cs.length lc)
 sl : ∀ (i : Nat) (s : SlD), ss[i]? = some s → ∃ (x : Value) (lo : Nat), w.cell? ⟨sg, so + i * 2, none⟩ = some (.string s.key) ∧ w.cell? ⟨sg, so + i * 2 + 1, none⟩ = some x ∧ Strs w lo x s.pos
 sc : ∀ (k : Nat) (c : ScD), cs[k]? = some c → ∃ (g o : Nat) (x : Value) (lo : Nat), la = some ⟨g, o, none⟩ ∧ w.cell? ⟨g, o + k * 5, none⟩ = some (.string c.who) ∧ w.cell? ⟨g, o + k * 5 + 1, none⟩ = some x ∧ w.cell? ⟨g, o + k * 5 + 2, none⟩ = some (.int .i64 c.num) ∧ w.cell? ⟨g, o + k * 5 + 3, none⟩ = some (.int .i64 c.den) ∧ w.cell? ⟨g, o + k * 5 + 4, none⟩ = some (.bool c.played) ∧ Strs w lo x c.pos
theorem s13_cells {W : World} {X14 X15 : Nat} {a b v k p n e y : Value} (h15 : W.heap[X15]? = some (.cells #[a, b, v] 103 (0, 0))) (h14 : W.heap[X14]? = some (.cells #[k, p, n, e, y] 77 (0, 0))) :
  (W.cell? ⟨X15, 0, none⟩ = some a ∧ W.cell? ⟨X15, 1, none⟩ = some b ∧ W.cell? ⟨X15, 2, none⟩ = some v) ∧ W.cell? ⟨X14, 0, none⟩ = some k ∧ W.cell? ⟨X14, 2, none⟩ = some n ∧ W.cell? ⟨X14, 3, none⟩ = some e :=
 ⟨lu_cells h15, cell_at h14 0 rfl, cell_at h14 2 rfl, cell_at h14 3 rfl⟩
/-- What the search answers. -/
def FromV (cs : List ScD) (ss : List SlD) (B n d i u : Nat) (w0 : World) (e : Ending) (w' : World) : Prop :=
 ∃ (x : Value) (n' : Nat), e = .returned (luV (luD cs (luN cs ss i u)) x) ∧ Strs w' (B + 1) x (luD cs (luN cs ss i u)).who ∧ w0.grownBy w' (some B) ∧ n' ≤ n + 8 ^ d ∧ MQ cs ss B n' w'
theorem shareQ {A1 A2 A3 A4 A5 A6 : Sort _} {C G : A1 → A2 → A3 → A4 → A5 → A6 → Prop} {R : Prop} (main : (∀ x1 x2 x3 x4 x5 x6, C x1 x2 x3 x4 x5 x6 → G x1 x2 x3 x4 x5 x6) → R) (tail : ∀ x1 x2 x3 x4 x5 x6, C x1 x2 x3 x4 x5 x6 → G x1 x2 x3 x4 x5 x6) : R := main tail
theorem strs_shapeN {w : World} {lo : Nat} {v : Value} {ks : List ByteArray} (h : Strs w lo v ks) : ∃ a n c, v = .slice a n c := by
 obtain ⟨a, c, rfl⟩ := strs_shape h
 exact ⟨_, _, _, rfl⟩
def o65_7 : Array Go.Oper := #[
 ⟨some 37, .fieldAddr 103 (.tmp 11) 0, 0, "scores.go:272", #[], none⟩,
 ⟨some 38, .load 3 (.tmp 37), 3, "scores.go:272", #[⟨0, .data⟩], none⟩,
 ⟨some 39, .fieldAddr 103 (.tmp 11) 1, 0, "scores.go:272", #[], none⟩,
 ⟨some 40, .load 3 (.tmp 39), 3, "scores.go:272", #[⟨2, .data⟩], none⟩,
 ⟨some 41, .buildSlice 39 1 #[(0, .const (.string { data := #[] }))], 39, "scores.go:272", #[], none⟩,
 ⟨some 42, .fieldAddr 103 (.tmp 11) 2, 0, "scores.go:272", #[], none⟩,
 ⟨some 43, .load 39 (.tmp 42), 39, "scores.go:272", #[⟨5, .data⟩], none⟩,
 ⟨some 44, .call { callee := .builtin .append, args := #[.tmp 41, .tmp 43], argTypes := #[39, 39] }, 39, "scores.go:272", #[⟨4, .data⟩, ⟨6, .data⟩], none⟩,
 ⟨some 45, .build 103 #[(0, .tmp 38), (1, .tmp 40), (2, .tmp 44)], 103, "scores.go:272", #[⟨1, .data⟩, ⟨3, .data⟩, ⟨7, .data⟩], none⟩,
 ⟨some 12, .alloc 103, 0, "scores.go:272", #[], none⟩,
 ⟨none, .store 103 (.tmp 12) (.tmp 45), 0, "scores.go:272", #[⟨9, .data⟩, ⟨8, .data⟩, ⟨7, .chain⟩, ⟨0, .phase⟩, ⟨1, .phase⟩, ⟨2, .phase⟩, ⟨3, .phase⟩, ⟨4, .phase⟩, ⟨5, .phase⟩, ⟨6, .phase⟩, ⟨7, .phase⟩, ⟨8, .phase⟩, ⟨9, .phase⟩], none⟩]
theorem o65_7_0 : o65_7[0]? = some (⟨some 37, .fieldAddr 103 (.tmp 11) 0, 0, "scores.go:272", #[], none⟩ : Go.Oper) := rfl
theorem o65_7_1 : o65_7[1]? = some (⟨some 38, .load 3 (.tmp 37), 3, "scores.go:272", #[⟨0, .data⟩], none⟩ : Go.Oper) := rfl
theorem o65_7_2 : o65_7[2]? = some (⟨some 39, .fieldAddr 103 (.tmp 11) 1, 0, "scores.go:272", #[], none⟩ : Go.Oper) := rfl
theorem o65_7_3 : o65_7[3]? = some (⟨some 40, .load 3 (.tmp 39), 3, "scores.go:272", #[⟨2, .data⟩], none⟩ : Go.Oper) := rfl
theorem o65_7_4 : o65_7[4]? = some (⟨some 41, .buildSlice 39 1 #[(0, .const (.string { data := #[] }))], 39, "scores.go:272", #[], none⟩ : Go.Oper) := rfl
theorem o65_7_5 : o65_7[5]? = some (⟨some 42, .fieldAddr 103 (.tmp 11) 2, 0, "scores.go:272", #[], none⟩ : Go.Oper) := rfl
theorem o65_7_6 : o65_7[6]? = some (⟨some 43, .load 39 (.tmp 42), 39, "scores.go:272", #[⟨5, .data⟩], none⟩ : Go.Oper) := rfl
theorem o65_7_7 : o65_7[7]? = some (⟨some 44, .call { callee := .builtin .append, args := #[.tmp 41, .tmp 43], argTypes := #[39, 39] }, 39, "scores.go:272", #[⟨4, .data⟩, ⟨6, .data⟩], none⟩ : Go.Oper) := rfl
theorem o65_7_8 : o65_7[8]? = some (⟨some 45, .build 103 #[(0, .tmp 38), (1, .tmp 40), (2, .tmp 44)], 103, "scores.go:272", #[⟨1, .data⟩, ⟨3, .data⟩, ⟨7, .data⟩], none⟩ : Go.Oper) := rfl
theorem o65_7_9 : o65_7[9]? = some (⟨some 12, .alloc 103, 0, "scores.go:272", #[], none⟩ : Go.Oper) := rfl
theorem o65_7_10 : o65_7[10]? = some (⟨none, .store 103 (.tmp 12) (.tmp 45), 0, "scores.go:272", #[⟨9, .data⟩, ⟨8, .data⟩, ⟨7, .chain⟩, ⟨0, .phase⟩, ⟨1, .phase⟩, ⟨2, .phase⟩, ⟨3, .phase⟩, ⟨4, .phase⟩, ⟨5, .phase⟩, ⟨6, .phase⟩, ⟨7, .phase⟩, ⟨8, .phase⟩, ⟨9, .phase⟩], none⟩ : Go.Oper) := rfl
def o65_11 : Array Go.Oper := #[
 ⟨some 53, .move (.tmp 1), 3, "scores.go:274", #[], none⟩,
 ⟨some 54, .move (.tmp 13), 3, "scores.go:274", #[], none⟩,
 ⟨some 55, .binOp .shr 3 (.tmp 53) (.tmp 54) 3, 3, "scores.go:274", #[⟨0, .data⟩, ⟨1, .data⟩], none⟩,
 ⟨some 56, .binOp .and 3 (.tmp 55) (.const (.int .i64 1)) 3, 3, "scores.go:274", #[⟨2, .data⟩], none⟩,
 ⟨some 57, .binOp .eql 3 (.tmp 56) (.const (.int .i64 1)) 3, 4, "scores.go:274", #[⟨3, .data⟩], none⟩,
 ⟨some 58, .move (.tmp 57), 4, "scores.go:274", #[⟨4, .data⟩], none⟩,
 ⟨some 59, .load 26 (.tmp 2), 26, "scores.go:274", #[⟨5, .guard⟩], some (5, false)⟩,
 ⟨some 60, .move (.tmp 0), 3, "scores.go:274", #[⟨5, .guard⟩], some (5, false)⟩,
 ⟨some 61, .indexAddr 26 (.tmp 59) (.tmp 60), 0, "scores.go:274", #[⟨6, .data⟩, ⟨7, .data⟩, ⟨5, .guard⟩], some (5, false)⟩,
 ⟨some 62, .load 72 (.tmp 61), 72, "scores.go:274", #[⟨8, .data⟩, ⟨5, .guard⟩], some (5, false)⟩,
 ⟨some 63, .load 77 (.tmp 14), 77, "scores.go:274", #[⟨5, .guard⟩], some (5, false)⟩,
 ⟨some 64, .call { callee := .value (.func 61), args := #[.tmp 62, .tmp 63], argTypes := #[72, 77] }, 4, "scores.go:274", #[⟨9, .data⟩, ⟨10, .data⟩, ⟨5, .chain⟩, ⟨5, .guard⟩], some (5, false)⟩,
 ⟨some 65, .unOp .not 4 (.tmp 64), 4, "scores.go:274", #[⟨11, .data⟩, ⟨5, .guard⟩], some (5, false)⟩,
 ⟨some 66, .pick (.tmp 58) (.const (.bool true)) (.tmp 65), 4, "scores.go:274", #[⟨5, .data⟩, ⟨12, .data⟩], none⟩,
 ⟨some 67, .move (.tmp 66), 4, "scores.go:274", #[⟨13, .data⟩, ⟨11, .chain⟩], none⟩,
 ⟨some 68, .fieldAddr 77 (.tmp 14) 2, 0, "scores.go:274", #[⟨14, .guard⟩], some (14, false)⟩,
 ⟨some 69, .fieldAddr 34 (.tmp 68) 0, 0, "scores.go:274", #[⟨15, .data⟩, ⟨14, .guard⟩], some (14, false)⟩,
 ⟨some 70, .load 3 (.tmp 69), 3, "scores.go:274", #[⟨16, .data⟩, ⟨14, .guard⟩], some (14, false)⟩,
 ⟨some 71, .binOp .leq 3 (.tmp 70) (.const (.int .i64 0)) 3, 4, "scores.go:274", #[⟨17, .data⟩, ⟨14, .guard⟩], some (14, false)⟩,
 ⟨some 72, .pick (.tmp 67) (.const (.bool true)) (.tmp 71), 4, "scores.go:274", #[⟨14, .data⟩, ⟨18, .data⟩], none⟩]
theorem o65_11_0 : o65_11[0]? = some (⟨some 53, .move (.tmp 1), 3, "scores.go:274", #[], none⟩ : Go.Oper) := rfl
theorem o65_11_1 : o65_11[1]? = some (⟨some 54, .move (.tmp 13), 3, "scores.go:274", #[], none⟩ : Go.Oper) := rfl
theorem o65_11_2 : o65_11[2]? = some (⟨some 55, .binOp .shr 3 (.tmp 53) (.tmp 54) 3, 3, "scores.go:274", #[⟨0, .data⟩, ⟨1, .data⟩], none⟩ : Go.Oper) := rfl
theorem o65_11_3 : o65_11[3]? = some (⟨some 56, .binOp .and 3 (.tmp 55) (.const (.int .i64 1)) 3, 3, "scores.go:274", #[⟨2, .data⟩], none⟩ : Go.Oper) := rfl
theorem o65_11_4 : o65_11[4]? = some (⟨some 57, .binOp .eql 3 (.tmp 56) (.const (.int .i64 1)) 3, 4, "scores.go:274", #[⟨3, .data⟩], none⟩ : Go.Oper) := rfl
theorem o65_11_5 : o65_11[5]? = some (⟨some 58, .move (.tmp 57), 4, "scores.go:274", #[⟨4, .data⟩], none⟩ : Go.Oper) := rfl
theorem o65_11_6 : o65_11[6]? = some (⟨some 59, .load 26 (.tmp 2), 26, "scores.go:274", #[⟨5, .guard⟩], some (5, false)⟩ : Go.Oper) := rfl
theorem o65_11_7 : o65_11[7]? = some (⟨some 60, .move (.tmp 0), 3, "scores.go:274", #[⟨5, .guard⟩], some (5, false)⟩ : Go.Oper) := rfl
theorem o65_11_8 : o65_11[8]? = some (⟨some 61, .indexAddr 26 (.tmp 59) (.tmp 60), 0, "scores.go:274", #[⟨6, .data⟩, ⟨7, .data⟩, ⟨5, .guard⟩], some (5, false)⟩ : Go.Oper) := rfl
theorem o65_11_9 : o65_11[9]? = some (⟨some 62, .load 72 (.tmp 61), 72, "scores.go:274", #[⟨8, .data⟩, ⟨5, .guard⟩], some (5, false)⟩ : Go.Oper) := rfl
theorem o65_11_10 : o65_11[10]? = some (⟨some 63, .load 77 (.tmp 14), 77, "scores.go:274", #[⟨5, .guard⟩], some (5, false)⟩ : Go.Oper) := rfl
theorem o65_11_11 : o65_11[11]? = some (⟨some 64, .call { callee := .value (.func 61), args := #[.tmp 62, .tmp 63], argTypes := #[72, 77] }, 4, "scores.go:274", #[⟨9, .data⟩, ⟨10, .data⟩, ⟨5, .chain⟩, ⟨5, .guard⟩], some (5, false)⟩ : Go.Oper) := rfl
theorem o65_11_12 : o65_11[12]? = some (⟨some 65, .unOp .not 4 (.tmp 64), 4, "scores.go:274", #[⟨11, .data⟩, ⟨5, .guard⟩], some (5, false)⟩ : Go.Oper) := rfl
theorem o65_11_13 : o65_11[13]? = some (⟨some 66, .pick (.tmp 58) (.const (.bool true)) (.tmp 65), 4, "scores.go:274", #[⟨5, .data⟩, ⟨12, .data⟩], none⟩ : Go.Oper) := rfl
theorem o65_11_14 : o65_11[14]? = some (⟨some 67, .move (.tmp 66), 4, "scores.go:274", #[⟨13, .data⟩, ⟨11, .chain⟩], none⟩ : Go.Oper) := rfl
theorem o65_11_15 : o65_11[15]? = some (⟨some 68, .fieldAddr 77 (.tmp 14) 2, 0, "scores.go:274", #[⟨14, .guard⟩], some (14, false)⟩ : Go.Oper) := rfl
theorem o65_11_16 : o65_11[16]? = some (⟨some 69, .fieldAddr 34 (.tmp 68) 0, 0, "scores.go:274", #[⟨15, .data⟩, ⟨14, .guard⟩], some (14, false)⟩ : Go.Oper) := rfl
theorem o65_11_17 : o65_11[17]? = some (⟨some 70, .load 3 (.tmp 69), 3, "scores.go:274", #[⟨16, .data⟩, ⟨14, .guard⟩], some (14, false)⟩ : Go.Oper) := rfl
theorem o65_11_18 : o65_11[18]? = some (⟨some 71, .binOp .leq 3 (.tmp 70) (.const (.int .i64 0)) 3, 4, "scores.go:274", #[⟨17, .data⟩, ⟨14, .guard⟩], some (14, false)⟩ : Go.Oper) := rfl
theorem o65_11_19 : o65_11[19]? = some (⟨some 72, .pick (.tmp 67) (.const (.bool true)) (.tmp 71), 4, "scores.go:274", #[⟨14, .data⟩, ⟨18, .data⟩], none⟩ : Go.Oper) := rfl
theorem o65_11_ns : Go.Region.noSelect o65_11 = true := by kernel_rfl
def o65_12 : Array Go.Oper := #[
 ⟨some 73, .load 101 (.tmp 4), 101, "scores.go:277", #[], none⟩,
 ⟨some 74, .move (.tmp 0), 3, "scores.go:277", #[], none⟩,
 ⟨some 75, .binOp .add 3 (.tmp 74) (.const (.int .i64 1)) 3, 3, "scores.go:277", #[⟨1, .data⟩], none⟩,
 ⟨some 76, .move (.tmp 1), 3, "scores.go:277", #[], none⟩,
 ⟨some 77, .move (.tmp 13), 3, "scores.go:277", #[], none⟩,
 ⟨some 78, .binOp .shl 3 (.const (.int .i64 1)) (.tmp 77) 3, 3, "scores.go:277", #[⟨4, .data⟩], none⟩,
 ⟨some 79, .binOp .or 3 (.tmp 76) (.tmp 78) 3, 3, "scores.go:277", #[⟨3, .data⟩, ⟨5, .data⟩], none⟩,
 ⟨some 80, .call { callee := .value (.tmp 73), args := #[.tmp 75, .tmp 79], argTypes := #[3, 3] }, 103, "scores.go:277", #[⟨0, .data⟩, ⟨2, .data⟩, ⟨6, .data⟩], none⟩,
 ⟨some 15, .alloc 103, 0, "scores.go:277", #[], none⟩,
 ⟨none, .store 103 (.tmp 15) (.tmp 80), 0, "scores.go:277", #[⟨8, .data⟩, ⟨7, .data⟩, ⟨7, .chain⟩, ⟨0, .phase⟩, ⟨1, .phase⟩, ⟨2, .phase⟩, ⟨3, .phase⟩, ⟨4, .phase⟩, ⟨5, .phase⟩, ⟨6, .phase⟩, ⟨7, .phase⟩, ⟨8, .phase⟩], none⟩]
theorem o65_12_0 : o65_12[0]? = some (⟨some 73, .load 101 (.tmp 4), 101, "scores.go:277", #[], none⟩ : Go.Oper) := rfl
theorem o65_12_1 : o65_12[1]? = some (⟨some 74, .move (.tmp 0), 3, "scores.go:277", #[], none⟩ : Go.Oper) := rfl
theorem o65_12_2 : o65_12[2]? = some (⟨some 75, .binOp .add 3 (.tmp 74) (.const (.int .i64 1)) 3, 3, "scores.go:277", #[⟨1, .data⟩], none⟩ : Go.Oper) := rfl
theorem o65_12_3 : o65_12[3]? = some (⟨some 76, .move (.tmp 1), 3, "scores.go:277", #[], none⟩ : Go.Oper) := rfl
theorem o65_12_4 : o65_12[4]? = some (⟨some 77, .move (.tmp 13), 3, "scores.go:277", #[], none⟩ : Go.Oper) := rfl
theorem o65_12_5 : o65_12[5]? = some (⟨some 78, .binOp .shl 3 (.const (.int .i64 1)) (.tmp 77) 3, 3, "scores.go:277", #[⟨4, .data⟩], none⟩ : Go.Oper) := rfl
theorem o65_12_6 : o65_12[6]? = some (⟨some 79, .binOp .or 3 (.tmp 76) (.tmp 78) 3, 3, "scores.go:277", #[⟨3, .data⟩, ⟨5, .data⟩], none⟩ : Go.Oper) := rfl
theorem o65_12_7 : o65_12[7]? = some (⟨some 80, .call { callee := .value (.tmp 73), args := #[.tmp 75, .tmp 79], argTypes := #[3, 3] }, 103, "scores.go:277", #[⟨0, .data⟩, ⟨2, .data⟩, ⟨6, .data⟩], none⟩ : Go.Oper) := rfl
theorem o65_12_8 : o65_12[8]? = some (⟨some 15, .alloc 103, 0, "scores.go:277", #[], none⟩ : Go.Oper) := rfl
theorem o65_12_9 : o65_12[9]? = some (⟨none, .store 103 (.tmp 15) (.tmp 80), 0, "scores.go:277", #[⟨8, .data⟩, ⟨7, .data⟩, ⟨7, .chain⟩, ⟨0, .phase⟩, ⟨1, .phase⟩, ⟨2, .phase⟩, ⟨3, .phase⟩, ⟨4, .phase⟩, ⟨5, .phase⟩, ⟨6, .phase⟩, ⟨7, .phase⟩, ⟨8, .phase⟩], none⟩ : Go.Oper) := rfl
def o65_13 : Array Go.Oper := #[
 ⟨some 81, .fieldAddr 103 (.tmp 15) 0, 0, "scores.go:278", #[], none⟩,
 ⟨some 82, .load 3 (.tmp 81), 3, "scores.go:278", #[⟨0, .data⟩], none⟩,
 ⟨some 83, .fieldAddr 77 (.tmp 14) 2, 0, "scores.go:278", #[], none⟩,
 ⟨some 84, .load 34 (.tmp 83), 34, "scores.go:278", #[⟨2, .data⟩], none⟩,
 ⟨some 85, .call { callee := .value (.func 64), args := #[.tmp 84], argTypes := #[34] }, 3, "scores.go:278", #[⟨3, .data⟩], none⟩,
 ⟨some 86, .binOp .add 3 (.tmp 82) (.tmp 85) 3, 3, "scores.go:278", #[⟨1, .data⟩, ⟨4, .data⟩], none⟩,
 ⟨some 87, .fieldAddr 103 (.tmp 15) 1, 0, "scores.go:278", #[], none⟩,
 ⟨some 88, .load 3 (.tmp 87), 3, "scores.go:278", #[⟨6, .data⟩], none⟩,
 ⟨some 89, .binOp .add 3 (.tmp 88) (.const (.int .i64 1)) 3, 3, "scores.go:278", #[⟨7, .data⟩], none⟩,
 ⟨some 90, .fieldAddr 77 (.tmp 14) 0, 0, "scores.go:278", #[], none⟩,
 ⟨some 91, .load 9 (.tmp 90), 9, "scores.go:278", #[⟨9, .data⟩], none⟩,
 ⟨some 92, .buildSlice 39 1 #[(0, .tmp 91)], 39, "scores.go:278", #[⟨10, .data⟩], none⟩,
 ⟨some 93, .fieldAddr 103 (.tmp 15) 2, 0, "scores.go:278", #[], none⟩,
 ⟨some 94, .load 39 (.tmp 93), 39, "scores.go:278", #[⟨12, .data⟩], none⟩,
 ⟨some 95, .call { callee := .builtin .append, args := #[.tmp 92, .tmp 94], argTypes := #[39, 39] }, 39, "scores.go:278", #[⟨11, .data⟩, ⟨13, .data⟩, ⟨4, .chain⟩], none⟩,
 ⟨some 96, .build 103 #[(0, .tmp 86), (1, .tmp 89), (2, .tmp 95)], 103, "scores.go:278", #[⟨5, .data⟩, ⟨8, .data⟩, ⟨14, .data⟩], none⟩,
 ⟨some 16, .alloc 103, 0, "scores.go:278", #[], none⟩,
 ⟨none, .store 103 (.tmp 16) (.tmp 96), 0, "scores.go:278", #[⟨16, .data⟩, ⟨15, .data⟩, ⟨14, .chain⟩, ⟨0, .phase⟩, ⟨1, .phase⟩, ⟨2, .phase⟩, ⟨3, .phase⟩, ⟨4, .phase⟩, ⟨5, .phase⟩, ⟨6, .phase⟩, ⟨7, .phase⟩, ⟨8, .phase⟩, ⟨9, .phase⟩, ⟨10, .phase⟩, ⟨11, .phase⟩, ⟨12, .phase⟩, ⟨13, .phase⟩, ⟨14, .phase⟩, ⟨15, .phase⟩, ⟨16, .phase⟩], none⟩]
theorem o65_13_0 : o65_13[0]? = some (⟨some 81, .fieldAddr 103 (.tmp 15) 0, 0, "scores.go:278", #[], none⟩ : Go.Oper) := rfl
theorem o65_13_1 : o65_13[1]? = some (⟨some 82, .load 3 (.tmp 81), 3, "scores.go:278", #[⟨0, .data⟩], none⟩ : Go.Oper) := rfl
theorem o65_13_2 : o65_13[2]? = some (⟨some 83, .fieldAddr 77 (.tmp 14) 2, 0, "scores.go:278", #[], none⟩ : Go.Oper) := rfl
theorem o65_13_3 : o65_13[3]? = some (⟨some 84, .load 34 (.tmp 83), 34, "scores.go:278", #[⟨2, .data⟩], none⟩ : Go.Oper) := rfl
theorem o65_13_4 : o65_13[4]? = some (⟨some 85, .call { callee := .value (.func 64), args := #[.tmp 84], argTypes := #[34] }, 3, "scores.go:278", #[⟨3, .data⟩], none⟩ : Go.Oper) := rfl
theorem o65_13_5 : o65_13[5]? = some (⟨some 86, .binOp .add 3 (.tmp 82) (.tmp 85) 3, 3, "scores.go:278", #[⟨1, .data⟩, ⟨4, .data⟩], none⟩ : Go.Oper) := rfl
theorem o65_13_6 : o65_13[6]? = some (⟨some 87, .fieldAddr 103 (.tmp 15) 1, 0, "scores.go:278", #[], none⟩ : Go.Oper) := rfl
theorem o65_13_7 : o65_13[7]? = some (⟨some 88, .load 3 (.tmp 87), 3, "scores.go:278", #[⟨6, .data⟩], none⟩ : Go.Oper) := rfl
theorem o65_13_8 : o65_13[8]? = some (⟨some 89, .binOp .add 3 (.tmp 88) (.const (.int .i64 1)) 3, 3, "scores.go:278", #[⟨7, .data⟩], none⟩ : Go.Oper) := rfl
theorem o65_13_9 : o65_13[9]? = some (⟨some 90, .fieldAddr 77 (.tmp 14) 0, 0, "scores.go:278", #[], none⟩ : Go.Oper) := rfl
theorem o65_13_10 : o65_13[10]? = some (⟨some 91, .load 9 (.tmp 90), 9, "scores.go:278", #[⟨9, .data⟩], none⟩ : Go.Oper) := rfl
theorem o65_13_11 : o65_13[11]? = some (⟨some 92, .buildSlice 39 1 #[(0, .tmp 91)], 39, "scores.go:278", #[⟨10, .data⟩], none⟩ : Go.Oper) := rfl
theorem o65_13_12 : o65_13[12]? = some (⟨some 93, .fieldAddr 103 (.tmp 15) 2, 0, "scores.go:278", #[], none⟩ : Go.Oper) := rfl
theorem o65_13_13 : o65_13[13]? = some (⟨some 94, .load 39 (.tmp 93), 39, "scores.go:278", #[⟨12, .data⟩], none⟩ : Go.Oper) := rfl
theorem o65_13_14 : o65_13[14]? = some (⟨some 95, .call { callee := .builtin .append, args := #[.tmp 92, .tmp 94], argTypes := #[39, 39] }, 39, "scores.go:278", #[⟨11, .data⟩, ⟨13, .data⟩, ⟨4, .chain⟩], none⟩ : Go.Oper) := rfl
theorem o65_13_15 : o65_13[15]? = some (⟨some 96, .build 103 #[(0, .tmp 86), (1, .tmp 89), (2, .tmp 95)], 103, "scores.go:278", #[⟨5, .data⟩, ⟨8, .data⟩, ⟨14, .data⟩], none⟩ : Go.Oper) := rfl
theorem o65_13_16 : o65_13[16]? = some (⟨some 16, .alloc 103, 0, "scores.go:278", #[], none⟩ : Go.Oper) := rfl
theorem o65_13_17 : o65_13[17]? = some (⟨none, .store 103 (.tmp 16) (.tmp 96), 0, "scores.go:278", #[⟨16, .data⟩, ⟨15, .data⟩, ⟨14, .chain⟩, ⟨0, .phase⟩, ⟨1, .phase⟩, ⟨2, .phase⟩, ⟨3, .phase⟩, ⟨4, .phase⟩, ⟨5, .phase⟩, ⟨6, .phase⟩, ⟨7, .phase⟩, ⟨8, .phase⟩, ⟨9, .phase⟩, ⟨10, .phase⟩, ⟨11, .phase⟩, ⟨12, .phase⟩, ⟨13, .phase⟩, ⟨14, .phase⟩, ⟨15, .phase⟩, ⟨16, .phase⟩], none⟩ : Go.Oper) := rfl
set_option maxRecDepth 100000 in
set_option maxHeartbeats 64000000 in
theorem from_calls (cs : List ScD) (ss : List SlD) (X2 X3 X4 X5 B sg so sk lc : Nat) (la : Option Addr) (wB : World) (hm : ss.length ≤ 4) (hn : cs.length ≤ 6)
  (hfw : ∀ c ∈ cs, FitW c) (hne : ∀ c ∈ cs, c.who.size ≠ 0) (hsort : SortedK (cs.map ScD.who)) (hkey : ∀ c ∈ cs, keyB c.who = true)
  (hF : ∀ w', wB.grownBy w' (some B) → FB cs ss X2 X3 X4 X5 B sg so sk la lc w') (egs : ∀ args w, (callFunc 65 args).run Tryz.prog w = .ok (.enter 65 args) w) :
  ∀ (d i u n : Nat) (w : World), i + d = ss.length → u < 64 → n + 8 ^ d ≤ 100000 → wB.grownBy w (some B) → MQ cs ss B n w →
   Calls Tryz.prog 65 #[.int .i64 (i : Int), .int .i64 (u : Int), .pointer (some ⟨X2, 0, none⟩), .pointer (some ⟨X3, 0, none⟩), .pointer (some ⟨X4, 0, none⟩), .pointer (some ⟨X5, 0, none⟩)] w (FromV cs ss B n d i u w) := by
 have HF := Lib.hid hF
 have Hfw := Lib.hid hfw
 have Hne := Lib.hid hne
 have Hsort := Lib.hid hsort
 have Hkey := Lib.hid hkey
 clear hF hfw hne hsort hkey
 intro d
 induction d with
 | zero =>
  intro i u n w hi hu hnb hg hM; obtain rfl : i = ss.length := by omega
  unfold FromV; rw [luN_end]; obtain ⟨X8, W, eX, eW, h8, hb8⟩ := any_box w (.cells #[.int .i64 0, .int .i64 0, .slice none 0 0] 103); have x2 := (HF.out W (gb_trans hg (gb_below hb8 _))).x2; obtain ⟨z0, z1, z2⟩ := lu_cells h8; have f0 := free_of h8 0; have f1 := free_of h8 1; have f2 := free_of h8 2; have hXw : w.heap.size ≤ X8 := by omega
  have hM8 := hM.below hb8; have hBw := hM.lt; have HM := Lib.hid hM8; clear hM hM8; generalize ss.length = m at *
  go_enter Tryz.func65, Tryz.ntmps65; go_upto_region 1 with fail
  clear eW eX; go_wp2_with fail
  try simp only [Exit.inBlock, Exit.then]
  obtain ⟨V, eV, h8', hk, hs, hgV⟩ := set_lu h8 (.int .i64 0) (.int .i64 0) (.slice none 0 0); refine bodyPost_ret (v := .agg #[.int .i64 0, .int .i64 0, .slice none 0 0]) ?_ rfl ⟨.slice none 0 0, n, rfl, strs_nilF _ _, ?_, by omega, ?_⟩
  ·obtain ⟨r0, r1, r2⟩ := lu_cells h8'
   rw [results_cell1 rfl]; go_simp
  ·rw [eV]; exact gb_then (gb_below hb8 _) hgV (fun r hr => by cases hr; exact hXw)
  ·rw [eV]; exact HM.out.step hgV (by intro e; cases e; omega) hs
 | succ d ih =>
  have IH := Lib.hid ih; clear ih; intro i u n w hi hu hnb hg hM; have hilt : i < ss.length := by omega
  have hnb' : n + 8 * 8 ^ d ≤ 100000 := by rw [Nat.pow_succ] at hnb; omega
  unfold FromV; have HR := Lib.hid (luN_step (cs := cs) (u := u) hilt)
  have Hok := Lib.hid (fun u' => (show LuOk cs d (luN cs ss (i + 1) u') from by
   have := luN_ok Hfw.out (cs := cs) (ss := ss) (i + 1) u'
   rwa [show ss.length - (i + 1) = d by omega] at this))
  have HT := Lib.hid (show 8 ^ (d + 1) = 8 * 8 ^ d by rw [Nat.pow_succ]; omega)
  generalize hL : luN cs ss i u = R at HR ⊢
  generalize hD : luD cs R = L
  obtain ⟨ls, lm, lw⟩ := L; have HL := Lib.hid hL; have HD := Lib.hid hD; clear hL hD; obtain ⟨X8, W, eX, eW, h8, hb8⟩ := any_box w (.cells #[.int .i64 0, .int .i64 0, .slice none 0 0] 103); have hg8 := gb_below hb8 (some B); have hX := HF.out W (gb_trans hg hg8); have x2 := hX.x2; have hi' : (i : Int) < (ss.length : Int) := by omega
  have hBw := hM.lt; have hXw : w.heap.size ≤ X8 := by omega
  have HM := Lib.hid (hM.below hb8); have Hg := Lib.hid hg; have hne1 : ((i : Int) == (ss.length : Int)) = false := by simp; omega
  clear hM hg; go_enter Tryz.func65, Tryz.ntmps65; go_upto_region 1 with fail
  clear eW eX; go_upto_region 3 with fail
  clear hne1 x2; have x3 := hX.x3; obtain ⟨v, ok, hlook, hq, hz⟩ := MemoQ.look HM.out i u (by omega) (by omega)
  unfold k2 at hlook
  clear hX; cases ok
  ·obtain rfl := hz rfl
   clear hq hz; unfold zeroLu at hlook
   go_upto_region 4 with fail
   obtain ⟨X9, W9, e9, f9, h9, hb9⟩ := any_box W (.cells #[.int .i64 0, .int .i64 0, .slice none 0 0] 103); rw [f9, e9]; clear f9 e9 h9 x3 hlook; have hg9 := gb_trans hg8 (gb_below hb9 (some B)); have x4 := (HF.out W9 (gb_trans Hg.out hg9)).x4; replace h8 := keep_heap h8 hb9; replace HM := Lib.hid (HM.out.below hb9); have C6 : Calls Tryz.prog 65 #[.int .i64 ((i : Int) + 1), .int .i64 (u : Int), .pointer (some ⟨X2, 0, none⟩), .pointer (some ⟨X3, 0, none⟩), .pointer (some ⟨X4, 0, none⟩), .pointer (some ⟨X5, 0, none⟩)] W9 (FromV cs ss B n d (i + 1) u W9) := IH.out (i + 1) u n W9 (by omega) hu (by omega) (gb_trans Hg.out hg9) HM.out
   have hi4 : (i : Int) ≤ 4 := by omega
   clear hb9 hg8 hb8; go_wp2_with fail
   refine C6.mono ?_; rintro e w6 ⟨x6, n6, rfl, hs6, hg6, hn6, hM6⟩; clear C6 x4 HM; obtain ⟨xa, xc, rfl⟩ := strs_shape hs6; have Hr := Lib.hid (Hok.out u); generalize hr : luN cs ss (i + 1) u = r at hs6 Hr ⊢
   have hR2 := HR.out; rw [hr] at hR2
   replace HR := Lib.hid hR2; clear hR2; unfold luD at hs6 ⊢
   unfold luV; dsimp only at hs6 ⊢
   clear hr; generalize hxl : (List.map (nameOf cs) r.who).length = xl at hs6 ⊢
   have hxl3 : xl ≤ 4 := by have := Hr.out.len; rw [← hxl, List.length_map]; omega
   clear hxl; go_upto_region 7 with fail
   obtain ⟨X11, W7, e11, f11, h11, hb11⟩ := any_box w6 (.cells #[.int .i64 r.sum, .int .i64 (r.many : Int), .slice xa xl xc] 103); rw [f11, e11]; clear f11 e11; replace h8 : W7.drew.heap[X8]? = _ := (show W7.heap[X8]? = _ from keep_heap (heap_gb h8 hg6 (by omega)) hb11)
   have HM := Lib.hid (hM6.below hb11).drew; have HS := Lib.hid ((hs6.below hb11).below ((Below.refl W7.heap.size W7).drew)); have hgc := gb_drewN' (gb_trans (gb_trans hg9 hg6) (gb_below hb11 (some B))); replace h11 : W7.drew.heap[X11]? = _ := h11
   have hC := lu_cells h11; clear hM6 hs6 hg6 hb11 hg9; show Code.wp _ (Code.region 7 o65_7 true) _ _ _
   refine regionC_start 11 (fun w' => w'.cell? ⟨X11, 0, none⟩ = some (.int .i64 r.sum) ∧ w'.cell? ⟨X11, 1, none⟩ = some (.int .i64 (r.many : Int)) ∧ w'.cell? ⟨X11, 2, none⟩ = some (.slice xa xl xc)) (fun j => [1, 3, 4, 6, 7, 9].contains j) (by kernel_rfl) rfl ?_
   generalize W7.drew = W0 at h8 h11 HM HS hgc hC ⊢
   apply shareQ (C := fun (va : Option Addr) (vl vc X12 G : Nat) (W : World) => W.heap[X8]? = some (.cells #[.int .i64 0, .int .i64 0, .slice none 0 0] 103 (0, 0)) ∧ W.heap[X12]? = some (.cells #[.int .i64 0, .int .i64 0, .slice none 0 0] 103 (0, 0)) ∧ Strs W (B + 1) (.slice va vl vc) (⟨#[]⟩ :: List.map (nameOf cs) r.who) ∧ MQ cs ss B n6 W ∧ w.grownBy W (some B) ∧ w.heap.size ≤ X12 ∧ X12 ≠ X8)
   ·intro tail
    refine takeC 0 37 (v := ?_) o65_7_0 rfl (by kernel_rfl) (by kernel_rfl) (by kernel_rfl) (by rfl) (fun _ _ _ h => h) (by rfl) ?y0_1 ?_
    case y0_1 => intro w; go_simp; try with_reducible rfl
    simp only [sE0, sE1]; refine takeC 2 39 (v := ?_) o65_7_2 rfl (by kernel_rfl) (by kernel_rfl) (by kernel_rfl) (by rfl) (fun _ _ _ h => h) (by rfl) ?y2_2 ?_
    case y2_2 => intro w; go_simp; try with_reducible rfl
    simp only [sE0, sE1]; refine takeC 5 42 (v := ?_) o65_7_5 rfl (by kernel_rfl) (by kernel_rfl) (by kernel_rfl) (by rfl) (fun _ _ _ h => h) (by rfl) ?y5_3 ?_
    case y5_3 => intro w; go_simp; try with_reducible rfl
    simp only [sE0, sE1]; refine loadC 1 38 (v := ?_) o65_7_1 rfl (by kernel_rfl) (by kernel_rfl) (by kernel_rfl) (by kernel_rfl) (fun _ _ _ h => h) (by rfl) ?y1_4 (by exact hC) ?_
    case y1_4 => intro w h; (try dsimp only at h); go_simp; try with_reducible rfl
    simp only [sE0, sE1]; refine loadC 3 40 (v := ?_) o65_7_3 rfl (by kernel_rfl) (by kernel_rfl) (by kernel_rfl) (by kernel_rfl) (fun _ _ _ h => h) (by rfl) ?y3_5 (by exact hC) ?_
    case y3_5 => intro w h; (try dsimp only at h); go_simp; try with_reducible rfl
    simp only [sE0, sE1]; refine loadC 6 43 (v := ?_) o65_7_6 rfl (by kernel_rfl) (by kernel_rfl) (by kernel_rfl) (by kernel_rfl) (fun _ _ _ h => h) (by rfl) ?y6_6 (by exact hC) ?_
    case y6_6 => intro w h; (try dsimp only at h); go_simp; try with_reducible rfl
    simp only [sE0, sE1]; refine readyC (rs := [4, 9]) (by kernel_rfl) (by simp) (each_cons (runC o65_7_4 (by rfl) (fun K hK => ?_)) (each_cons (runC o65_7_9 (by rfl) (fun K hK => ?_)) each_nil))
    ·go_simp
     obtain ⟨G, W4, eG, fG, hG, hbG⟩ := any_box _ (.cells #[.string ⟨#[]⟩] 9); rw [fG, eG]; clear fG; have zG : B + 1 ≤ G := by have := HM.out.lt; omega
     clear eG; try replace h8 := keep_heap h8 hbG
     try replace h11 := keep_heap h11 hbG
     try replace h12 := keep_heap h12 hbG
     try replace h14 := keep_heap h14 hbG
     try replace h15 := keep_heap h15 hbG
     try replace h16 := keep_heap h16 hbG
     try replace hG := keep_heap hG hbG
     try replace HS := Lib.hid (HS.out.below hbG)
     try replace HV := Lib.hid (HV.out.below hbG)
     try replace HB := Lib.hid (HB.out.below hbG)
     replace HM := Lib.hid (HM.out.below hbG); replace hgc := gb_trans hgc (gb_below hbG _); replace hC := lu_cells h11; go_wp2_with fail
     refine hK.out _ _ (fun _ => ?_) ?_
     ·(exact hC)
     clear hK K; try simp only [Act.put, sEt, sE0, sE1]
     refine readyC (rs := [7, 9]) (by kernel_rfl) (by simp) (each_cons (runC o65_7_7 (by rfl) (fun K hK => ?_)) (each_cons (runC o65_7_9 (by rfl) (fun K hK => ?_)) each_nil))
     ·refine wp_append_full _ (Operand.tmp 41) (Operand.tmp 43) rfl G _ _ _ _ rfl rfl hG HS.out (by rw [List.length_map, Hr.out.len]; omega) ?_
      intro v7 W77 hV hb7; obtain ⟨va, vl, vc, rfl⟩ := strs_shapeN hV; have HV := Lib.hid (hV.mono zG); clear hV; try replace h8 := keep_heap h8 hb7
      try replace h11 := keep_heap h11 hb7
      try replace h12 := keep_heap h12 hb7
      try replace h14 := keep_heap h14 hb7
      try replace h15 := keep_heap h15 hb7
      try replace h16 := keep_heap h16 hb7
      try replace hG := keep_heap hG hb7
      replace HM := Lib.hid (HM.out.below hb7); replace hgc := gb_trans hgc (gb_below hb7 _); replace hC := lu_cells h11; refine hK.out _ _ (fun _ => ?_) ?_
      ·(exact hC)
      clear hK K; try simp only [Act.put, sEt, sE0, sE1]
      refine takeC 8 45 (v := ?_) o65_7_8 rfl (by kernel_rfl) (by kernel_rfl) (by kernel_rfl) (by rfl) (fun _ _ _ h => h) (by rfl) ?y8_7 ?_
      case y8_7 => intro w; go_simp; try with_reducible rfl
      simp only [sE0, sE1]; refine readyC (rs := [9]) (by kernel_rfl) (by simp) (each_cons (runC o65_7_9 (by rfl) (fun K hK => ?_)) each_nil)
      go_simp; obtain ⟨X12, W12, eX12, fX12, h12, hb12⟩ := any_box _ (.cells #[.int .i64 0, .int .i64 0, .slice none 0 0] 103); rw [fX12, eX12]; clear fX12; have z12 : w.heap.size ≤ X12 := by have := hgc.size; omega
      have n12 : X12 ≠ X8 := by have := lt_of_heap h8; omega
      clear eX12; try replace h8 := keep_heap h8 hb12
      try replace h11 := keep_heap h11 hb12
      try replace h12 := keep_heap h12 hb12
      try replace h14 := keep_heap h14 hb12
      try replace h15 := keep_heap h15 hb12
      try replace h16 := keep_heap h16 hb12
      try replace hG := keep_heap hG hb12
      try replace HS := Lib.hid (HS.out.below hb12)
      try replace HV := Lib.hid (HV.out.below hb12)
      try replace HB := Lib.hid (HB.out.below hb12)
      replace HM := Lib.hid (HM.out.below hb12); replace hgc := gb_trans hgc (gb_below hb12 _); replace hC := lu_cells h11; go_wp2_with fail
      refine hK.out _ _ (fun _ => ?_) ?_
      ·(exact hC)
      clear hK K; try simp only [Act.put, sEt, sE0, sE1]
      refine sameC (l' := (bQ 11 1023)) (by kernel_rfl) ?_
      first | exact tail va vl vc X12 G W77 ⟨h8, h12, HV.out, HM.out, hgc, z12, n12⟩ | exact tail va vl vc X12 G W4 ⟨h8, h12, HV.out, HM.out, hgc, z12, n12⟩ | exact tail va vl vc X12 G W12 ⟨h8, h12, HV.out, HM.out, hgc, z12, n12⟩
     ·go_simp
      obtain ⟨X12, W12, eX12, fX12, h12, hb12⟩ := any_box _ (.cells #[.int .i64 0, .int .i64 0, .slice none 0 0] 103); rw [fX12, eX12]; clear fX12; have z12 : w.heap.size ≤ X12 := by have := hgc.size; omega
      have n12 : X12 ≠ X8 := by have := lt_of_heap h8; omega
      clear eX12; try replace h8 := keep_heap h8 hb12
      try replace h11 := keep_heap h11 hb12
      try replace h12 := keep_heap h12 hb12
      try replace h14 := keep_heap h14 hb12
      try replace h15 := keep_heap h15 hb12
      try replace h16 := keep_heap h16 hb12
      try replace hG := keep_heap hG hb12
      try replace HS := Lib.hid (HS.out.below hb12)
      try replace HV := Lib.hid (HV.out.below hb12)
      try replace HB := Lib.hid (HB.out.below hb12)
      replace HM := Lib.hid (HM.out.below hb12); replace hgc := gb_trans hgc (gb_below hb12 _); replace hC := lu_cells h11; go_wp2_with fail
      refine hK.out _ _ (fun _ => ?_) ?_
      ·(exact hC)
      clear hK K; try simp only [Act.put, sEt, sE0, sE1]
      refine readyC (rs := [7]) (by kernel_rfl) (by simp) (each_cons (runC o65_7_7 (by rfl) (fun K hK => ?_)) each_nil)
      refine wp_append_full _ (Operand.tmp 41) (Operand.tmp 43) rfl G _ _ _ _ rfl rfl hG HS.out (by rw [List.length_map, Hr.out.len]; omega) ?_
      intro v7 W77 hV hb7; obtain ⟨va, vl, vc, rfl⟩ := strs_shapeN hV; have HV := Lib.hid (hV.mono zG); clear hV; try replace h8 := keep_heap h8 hb7
      try replace h11 := keep_heap h11 hb7
      try replace h12 := keep_heap h12 hb7
      try replace h14 := keep_heap h14 hb7
      try replace h15 := keep_heap h15 hb7
      try replace h16 := keep_heap h16 hb7
      try replace hG := keep_heap hG hb7
      replace HM := Lib.hid (HM.out.below hb7); replace hgc := gb_trans hgc (gb_below hb7 _); replace hC := lu_cells h11; refine hK.out _ _ (fun _ => ?_) ?_
      ·(exact hC)
      clear hK K; try simp only [Act.put, sEt, sE0, sE1]
      refine takeC 8 45 (v := ?_) o65_7_8 rfl (by kernel_rfl) (by kernel_rfl) (by kernel_rfl) (by rfl) (fun _ _ _ h => h) (by rfl) ?y8_8 ?_
      case y8_8 => intro w; go_simp; try with_reducible rfl
      simp only [sE0, sE1]; refine sameC (l' := (bQ 11 1023)) (by kernel_rfl) ?_
      first | exact tail va vl vc X12 G W77 ⟨h8, h12, HV.out, HM.out, hgc, z12, n12⟩ | exact tail va vl vc X12 G W4 ⟨h8, h12, HV.out, HM.out, hgc, z12, n12⟩ | exact tail va vl vc X12 G W12 ⟨h8, h12, HV.out, HM.out, hgc, z12, n12⟩
    ·go_simp
     obtain ⟨X12, W12, eX12, fX12, h12, hb12⟩ := any_box _ (.cells #[.int .i64 0, .int .i64 0, .slice none 0 0] 103); rw [fX12, eX12]; clear fX12; have z12 : w.heap.size ≤ X12 := by have := hgc.size; omega
     have n12 : X12 ≠ X8 := by have := lt_of_heap h8; omega
     clear eX12; try replace h8 := keep_heap h8 hb12
     try replace h11 := keep_heap h11 hb12
     try replace h12 := keep_heap h12 hb12
     try replace h14 := keep_heap h14 hb12
     try replace h15 := keep_heap h15 hb12
     try replace h16 := keep_heap h16 hb12
     try replace hG := keep_heap hG hb12
     try replace HS := Lib.hid (HS.out.below hb12)
     try replace HV := Lib.hid (HV.out.below hb12)
     try replace HB := Lib.hid (HB.out.below hb12)
     replace HM := Lib.hid (HM.out.below hb12); replace hgc := gb_trans hgc (gb_below hb12 _); replace hC := lu_cells h11; go_wp2_with fail
     refine hK.out _ _ (fun _ => ?_) ?_
     ·(exact hC)
     clear hK K; try simp only [Act.put, sEt, sE0, sE1]
     refine readyC (rs := [4]) (by kernel_rfl) (by simp) (each_cons (runC o65_7_4 (by rfl) (fun K hK => ?_)) each_nil)
     go_simp; obtain ⟨G, W4, eG, fG, hG, hbG⟩ := any_box _ (.cells #[.string ⟨#[]⟩] 9); rw [fG, eG]; clear fG; have zG : B + 1 ≤ G := by have := HM.out.lt; omega
     clear eG; try replace h8 := keep_heap h8 hbG
     try replace h11 := keep_heap h11 hbG
     try replace h12 := keep_heap h12 hbG
     try replace h14 := keep_heap h14 hbG
     try replace h15 := keep_heap h15 hbG
     try replace h16 := keep_heap h16 hbG
     try replace hG := keep_heap hG hbG
     try replace HS := Lib.hid (HS.out.below hbG)
     try replace HV := Lib.hid (HV.out.below hbG)
     try replace HB := Lib.hid (HB.out.below hbG)
     replace HM := Lib.hid (HM.out.below hbG); replace hgc := gb_trans hgc (gb_below hbG _); replace hC := lu_cells h11; go_wp2_with fail
     refine hK.out _ _ (fun _ => ?_) ?_
     ·(exact hC)
     clear hK K; try simp only [Act.put, sEt, sE0, sE1]
     refine readyC (rs := [7]) (by kernel_rfl) (by simp) (each_cons (runC o65_7_7 (by rfl) (fun K hK => ?_)) each_nil)
     refine wp_append_full _ (Operand.tmp 41) (Operand.tmp 43) rfl G _ _ _ _ rfl rfl hG HS.out (by rw [List.length_map, Hr.out.len]; omega) ?_
     intro v7 W77 hV hb7; obtain ⟨va, vl, vc, rfl⟩ := strs_shapeN hV; have HV := Lib.hid (hV.mono zG); clear hV; try replace h8 := keep_heap h8 hb7
     try replace h11 := keep_heap h11 hb7
     try replace h12 := keep_heap h12 hb7
     try replace h14 := keep_heap h14 hb7
     try replace h15 := keep_heap h15 hb7
     try replace h16 := keep_heap h16 hb7
     try replace hG := keep_heap hG hb7
     replace HM := Lib.hid (HM.out.below hb7); replace hgc := gb_trans hgc (gb_below hb7 _); replace hC := lu_cells h11; refine hK.out _ _ (fun _ => ?_) ?_
     ·(exact hC)
     clear hK K; try simp only [Act.put, sEt, sE0, sE1]
     refine takeC 8 45 (v := ?_) o65_7_8 rfl (by kernel_rfl) (by kernel_rfl) (by kernel_rfl) (by rfl) (fun _ _ _ h => h) (by rfl) ?y8_9 ?_
     case y8_9 => intro w; go_simp; try with_reducible rfl
     simp only [sE0, sE1]; refine sameC (l' := (bQ 11 1023)) (by kernel_rfl) ?_
     first | exact tail va vl vc X12 G W77 ⟨h8, h12, HV.out, HM.out, hgc, z12, n12⟩ | exact tail va vl vc X12 G W4 ⟨h8, h12, HV.out, HM.out, hgc, z12, n12⟩ | exact tail va vl vc X12 G W12 ⟨h8, h12, HV.out, HM.out, hgc, z12, n12⟩
   ·intro va vl vc X12 G W7 ⟨h8, h12, hV, hM, hgc, z12, n12⟩
    have HV := Lib.hid hV; have HM := Lib.hid hM; clear hV hM; refine readyC (rs := [10]) (by kernel_rfl) (by simp) (each_cons (runC o65_7_10 (by rfl) (fun K hK => ?_)) each_nil)
    obtain ⟨z0, z1, z2⟩ := lu_cells h12; have f0 := free_of h12 0; have f1 := free_of h12 1; have f2 := free_of h12 2; go_simp; obtain ⟨W8, e10, h12n, k10, s10, g10⟩ := set_lu h12 (.int .i64 r.sum) (.int .i64 (r.many : Int)) (.slice va vl vc); rw [e10]; replace h8 := k10 _ _ h8 (Ne.symm n12); replace HV := Lib.hid (s10 _ _ _ HV.out); replace HM := Lib.hid (HM.out.step g10 (by intro e; cases e; omega) s10)
    replace hgc := gb_then hgc g10 (fun r hr => by cases hr; exact z12)
    replace h12 := h12n; clear e10 k10 s10 g10 h12n z0 z1 z2 f0 f1 f2; refine hK.out _ _ (fun h => absurd h (by decide)) ?_
    clear hK K; try simp only [sEt, sE0, sE1]
    refine doneC (by kernel_rfl) ?_ _
    have hV0 : Strs W8 (B + 1) (.slice va vl vc) (List.map (nameOf cs) (nobodyK r).who) := HV.out
    have HB := Lib.hid hV0; have HOk := Lib.hid Hr.out.nobody; have x5 := (HF.out W8 (gb_trans Hg.out hgc)).x5; have Hn6 := Lib.hid (show n6 ≤ n + (0 + 1) * 8 ^ d by rw [Nat.zero_add, Nat.one_mul]; exact hn6)
    have H12 := Lib.hid h12; clear hV0 HV Hr hn6 hC h12; go_wp2_with fail
    clear x5; go_loopw [48] (fun idx wr => ∃ (k n' : Nat) (b : LN) (ba : Option Addr) (bl bc : Nat), k ≤ cs.length ∧ idx = .int .i64 (k : Int) ∧ Hid (R = (List.range' k (cs.length - k)).foldl (luF cs ss i u) b) ∧ Hid (LuOk cs (d + 1) b) ∧ wr.heap[X12]? = some (.cells #[.int .i64 b.sum, .int .i64 (b.many : Int), .slice ba bl bc] 103 (0, 0)) ∧ Hid (Strs wr (B + 1) (.slice ba bl bc) (List.map (nameOf cs) b.who)) ∧ Hid (MQ cs ss B n' wr) ∧ Hid (n' ≤ n + (k + 1) * 8 ^ d) ∧ wr.heap[X8]? = some (.cells #[.int .i64 0, .int .i64 0, .slice none 0 0] 103 (0, 0)) ∧ w.grownBy wr (some B)) (fun idx _ => cs.length - (intOf idx).toNat)
    case atStart => exact ⟨0, n6, nobodyK r, va, vl, vc, Nat.zero_le _, rfl, HR, HOk, H12.out, HB, HM, Hn6, h8, hgc⟩
    case round =>
     clear HR HOk H12 HB HM Hn6 h8 hgc; obtain ⟨k, n', b, ba, bl, bc, hk, rfl, HR, HOk, h12, HB, HM, Hn', h8, hgc⟩ := hrel; by_cases hlt : k < cs.length
     ·have hlt' : (k : Int) < (cs.length : Int) := by omega
      have hc : cs[k]? = some cs[k] := List.getElem?_eq_getElem hlt
      generalize cs[k] = c at hc
      have hs : ss[i]? = some ss[i] := List.getElem?_eq_getElem hilt
      generalize ss[i] = s at hs
      have hX := HF.out wr (gb_trans Hg.out hgc); obtain ⟨cg, co, cx, clo, hla, q0, q1, q2, q3, q4, hcp⟩ := hX.sc k c hc; obtain ⟨sx, slo, -, -, hsp⟩ := hX.sl i s hs; obtain ⟨pa, pl, pc, rfl⟩ := strs_shapeN hcp; obtain ⟨sa, sn, sc', rfl⟩ := strs_shapeN hsp; subst hla; clear hX hsp; go_upto_region 11 with fail
      obtain ⟨X14, W14, e14, f14, h14, hb14⟩ := any_box wr (.cells #[.string c.who, .slice pa pl pc, .int .i64 c.num, .int .i64 c.den, .bool c.played] 77); rw [f14, e14]; clear f14 q0 q1 q2 q3 q4; have hgw0 := hgc; have e14' : wr.heap.size ≤ X14 := by omega
      have n14a : X14 ≠ X8 ∧ X14 ≠ X12 := by have := lt_of_heap h8; have := lt_of_heap h12; omega
      replace h8 : W14.drew.heap[X8]? = _ := (show W14.heap[X8]? = _ from keep_heap h8 hb14)
      replace h12 : W14.drew.heap[X12]? = _ := (show W14.heap[X12]? = _ from keep_heap h12 hb14)
      replace HB := Lib.hid ((HB.out.below hb14).below ((Below.refl W14.heap.size W14).drew)); replace HM := Lib.hid (HM.out.below hb14).drew; have hX := HF.out W14 (gb_trans Hg.out (gb_trans hgc (gb_below hb14 (some B)))); replace hgc := gb_drewN' (gb_trans hgc (gb_below hb14 (some B))); replace hcp := (hcp.below hb14).below ((Below.refl W14.heap.size W14).drew); obtain ⟨sx, slo', p0, p1, hsp⟩ := hX.sl i s hs; obtain ⟨sa', sn', sc'', rfl⟩ := strs_shapeN hsp; have x2 := hX.x2
      have HS := Lib.hid (show ∀ w', Below W14.heap.size W14 w' → (Below W14.heap.size W14 w' ∧ w'.cell? ⟨X2, 0, none⟩ = some (.slice (some ⟨sg, so, none⟩) ss.length sk) ∧ w'.cell? ⟨sg, so + i * 2, none⟩ = some (.string s.key) ∧ w'.cell? ⟨sg, so + i * 2 + 1, none⟩ = some (.slice sa' sn' sc'') ∧ w'.cell? ⟨X14, 0, none⟩ = some (.string c.who) ∧ w'.cell? ⟨X14, 1, none⟩ = some (.slice pa pl pc) ∧ w'.cell? ⟨X14, 2, none⟩ = some (.int .i64 c.num) ∧ w'.cell? ⟨X14, 3, none⟩ = some (.int .i64 c.den) ∧ w'.cell? ⟨X14, 4, none⟩ = some (.bool c.played)) from fun w' hb => by
       have h := keep_heap h14 hb; exact ⟨hb, below_cell hb x2, below_cell hb p0, below_cell hb p1, cell_at h 0 rfl, cell_at h 1 rfl, cell_at h 2 rfl, cell_at h 3 rfl, cell_at h 4 rfl⟩)
      clear hX x2 p0 p1; have Hh14 := Lib.hid (show ∀ w', Below W14.heap.size W14 w' → w'.heap[X14]? = _ from fun w' hb => keep_heap h14 hb)
      have hb0 := (Below.refl W14.heap.size W14).drew; obtain ⟨sh, hsh⟩ : ∃ sh, sh = u >>> k := ⟨_, rfl⟩
      have Hsh := Lib.hid (show (u : Int) / 2 ^ k = (sh : Int) by rw [hsh, Nat.shiftRight_eq_div_pow]; push_cast; rfl)
      have hshu : sh < 64 := by rw [hsh, Nat.shiftRight_eq_div_pow]; exact Nat.lt_of_le_of_lt (Nat.div_le_self _ _) hu
      obtain ⟨an, han⟩ : ∃ an, an = sh &&& 1 := ⟨_, rfl⟩
      have Hbt := Lib.hid (show an = 1 ↔ u.testBit k = true by rw [han, hsh]; exact bit_test u k)
      have Han := Lib.hid (show bits .and .i64 (sh : Int) 1 = (an : Int) by rw [han]; exact bits_and64 sh 1 hshu (by omega))
      have Han0 := Lib.hid (show an < 64 by rw [han]; exact Nat.lt_of_le_of_lt Nat.and_le_right (by omega))
      clear hsh han hshu; cases hu' : u.testBit k
      ·have hai : ((an : Int) == 1) = false := by
        have : ¬ an = 1 := fun h => by have := Hbt.out.1 h; rw [hu'] at this; cases this
        simp; omega
       clear Hbt; cases hfit : fitB s c
       ·have HRn := Lib.hid (show R = (List.range' (k + 1) (cs.length - (k + 1))).foldl (luF cs ss i u) b by
         have := fold_cons hlt HR.out
         rwa [luF_no (by unfold okK; rw [show fitS cs ss i k = false by unfold fitS suitAt; rw [scAt_some hc, slAt_some hs, suit_fit, hfit]]; simp)] at this)
        clear hu'; show Code.wp _ (Code.region 11 o65_11 true) _ _ _
        refine region_start 20 (fun w' => Below W14.heap.size W14 w' ∧ w'.cell? ⟨X2, 0, none⟩ = some (.slice (some ⟨sg, so, none⟩) ss.length sk) ∧ w'.cell? ⟨sg, so + i * 2, none⟩ = some (.string s.key) ∧ w'.cell? ⟨sg, so + i * 2 + 1, none⟩ = some (.slice sa' sn' sc'') ∧ w'.cell? ⟨X14, 0, none⟩ = some (.string c.who) ∧ w'.cell? ⟨X14, 1, none⟩ = some (.slice pa pl pc) ∧ w'.cell? ⟨X14, 2, none⟩ = some (.int .i64 c.num) ∧ w'.cell? ⟨X14, 3, none⟩ = some (.int .i64 c.den) ∧ w'.cell? ⟨X14, 4, none⟩ = some (.bool c.played)) (by kernel_rfl) rfl ?_ (fun hHeld => ?_)
        ·(exact HS.out _ (by first | assumption | exact hHeld.1))
        refine take_to 0 53 (bQ 20 1) (v := ?_) o65_11_0 rfl o65_11_ns (by kernel_rfl) (by kernel_rfl) (fun _ _ _ h => h) (by rfl) ?y0b (by assumption) ?_
        case y0b => intro w h; (try dsimp only at h); go_simp; try with_reducible rfl
        simp only [sE0, sE1]; refine take_to 1 54 (bQ 20 3) (v := ?_) o65_11_1 rfl o65_11_ns (by kernel_rfl) (by kernel_rfl) (fun _ _ _ h => h) (by rfl) ?y1b (by assumption) ?_
        case y1b => intro w h; (try dsimp only at h); go_simp; try with_reducible rfl
        simp only [sE0, sE1]; refine take_to 2 55 (bQ 20 7) (v := .int .i64 (sh : Int)) o65_11_2 rfl o65_11_ns (by kernel_rfl) (by kernel_rfl) (fun _ _ _ h => h) (by rfl) ?y2b (by assumption) ?_
        case y2b =>
         intro w hSw; try dsimp only at hSw
         go_simp; exact Hsh.out
        simp only [sE0, sE1]; refine take_to 3 56 (bQ 20 15) (v := .int .i64 (an : Int)) o65_11_3 rfl o65_11_ns (by kernel_rfl) (by kernel_rfl) (fun _ _ _ h => h) (by rfl) ?y3b (by assumption) ?_
        case y3b =>
         intro w hSw; try dsimp only at hSw
         go_simp; exact Han.out
        simp only [sE0, sE1]; refine take_to 4 57 (bQ 20 31) (v := .bool false) o65_11_4 rfl o65_11_ns (by kernel_rfl) (by kernel_rfl) (fun _ _ _ h => h) (by rfl) ?y4b (by assumption) ?_
        case y4b =>
         intro w hSw; try dsimp only at hSw
         go_simp
        simp only [sE0, sE1]; refine take_to 5 58 (bQ 20 63) (v := ?_) o65_11_5 rfl o65_11_ns (by kernel_rfl) (by kernel_rfl) (fun _ _ _ h => h) (by rfl) ?y5b (by assumption) ?_
        case y5b => intro w h; (try dsimp only at h); go_simp; try with_reducible rfl
        simp only [sE0, sE1]; refine take_to 6 59 (bQ 20 127) (v := ?_) o65_11_6 rfl o65_11_ns (by kernel_rfl) (by kernel_rfl) (fun _ _ _ h => h) (by rfl) ?y6b (by assumption) ?_
        case y6b => intro w h; (try dsimp only at h); go_simp; try with_reducible rfl
        simp only [sE0, sE1]; refine take_to 7 60 (bQ 20 255) (v := ?_) o65_11_7 rfl o65_11_ns (by kernel_rfl) (by kernel_rfl) (fun _ _ _ h => h) (by rfl) ?y7b (by assumption) ?_
        case y7b => intro w h; (try dsimp only at h); go_simp; try with_reducible rfl
        simp only [sE0, sE1]; refine take_to 8 61 (bQ 20 511) (v := ?_) o65_11_8 rfl o65_11_ns (by kernel_rfl) (by kernel_rfl) (fun _ _ _ h => h) (by rfl) ?y8b (by assumption) ?_
        case y8b => intro w h; (try dsimp only at h); go_simp; try with_reducible rfl
        simp only [sE0, sE1]; refine take_to 9 62 (bQ 20 1023) (v := ?_) o65_11_9 rfl o65_11_ns (by kernel_rfl) (by kernel_rfl) (fun _ _ _ h => h) (by rfl) ?y9b (by assumption) ?_
        case y9b => intro w h; (try dsimp only at h); go_simp; try with_reducible rfl
        simp only [sE0, sE1]; refine take_to 10 63 (bQ 20 2047) (v := ?_) o65_11_10 rfl o65_11_ns (by kernel_rfl) (by kernel_rfl) (fun _ _ _ h => h) (by rfl) ?y10b (by assumption) ?_
        case y10b => intro w h; (try dsimp only at h); go_simp; try with_reducible rfl
        simp only [sE0, sE1]; refine run_to 11 (bQ 20 4095) o65_11_11 (by kernel_rfl) (by kernel_rfl) (by rfl) (fun K hK => ?_)
        go_simp; refine (fit_calls _ _ _ _ c s _ hcp (hsp.below hb0)).mono ?_; rintro e w2 ⟨rfl, hb2⟩; have hbz := below_step hb0 hb2; go_wp2_with fail
        refine hK.out _ _ ?_ (fun hHeld => ?_)
        ·(exact HS.out _ (by first | assumption | exact hHeld.1))
        clear hK K; try simp only [Act.put, sEt, sE0, sE1]
        refine take_to 12 65 (bQ 20 8191) (v := ?_) o65_11_12 rfl o65_11_ns (by kernel_rfl) (by kernel_rfl) (fun _ _ _ h => h) (by rfl) ?y12b (by assumption) ?_
        case y12b => intro w h; (try dsimp only at h); go_simp; try with_reducible rfl
        simp only [sE0, sE1]; refine take_to 13 66 (bQ 20 16383) (v := ?_) o65_11_13 rfl o65_11_ns (by kernel_rfl) (by kernel_rfl) (fun _ _ _ h => h) (by rfl) ?y13b (by assumption) ?_
        case y13b => intro w h; (try dsimp only at h); go_simp; try with_reducible rfl
        simp only [sE0, sE1]; refine take_to 14 67 (bQ 20 32767) (v := ?_) o65_11_14 rfl o65_11_ns (by kernel_rfl) (by kernel_rfl) (fun _ _ _ h => h) (by rfl) ?y14b (by assumption) ?_
        case y14b => intro w h; (try dsimp only at h); go_simp; try with_reducible rfl
        simp only [sE0, sE1]; refine skip_to 15 68 (bQ 20 65535) o65_11_15 rfl o65_11_ns (by kernel_rfl) (by kernel_rfl) (fun _ _ _ h => h) (by rfl) (by assumption) ?_
        simp only [sE0, sE1]; refine skip_to 16 69 (bQ 20 131071) o65_11_16 rfl o65_11_ns (by kernel_rfl) (by kernel_rfl) (fun _ _ _ h => h) (by rfl) (by assumption) ?_
        simp only [sE0, sE1]; refine skip_to 17 70 (bQ 20 262143) o65_11_17 rfl o65_11_ns (by kernel_rfl) (by kernel_rfl) (fun _ _ _ h => h) (by rfl) (by assumption) ?_
        simp only [sE0, sE1]; refine skip_to 18 71 (bQ 20 524287) o65_11_18 rfl o65_11_ns (by kernel_rfl) (by kernel_rfl) (fun _ _ _ h => h) (by rfl) (by assumption) ?_
        simp only [sE0, sE1]; refine take_to 19 72 (bQ 20 1048575) (v := ?_) o65_11_19 rfl o65_11_ns (by kernel_rfl) (by kernel_rfl) (fun _ _ _ h => h) (by rfl) ?y19b (by assumption) ?_
        case y19b => intro w h; (try dsimp only at h); go_simp; try with_reducible rfl
        simp only [sE0, sE1]; refine wpAnyH_done (by kernel_rfl) ?_ _
        replace h8 := keep_heap h8 hb2; replace h12 := keep_heap h12 hb2; replace HB := Lib.hid (HB.out.below hb2); replace HM := Lib.hid (HM.out.below hb2); replace hgc := gb_trans hgc (gb_below hb2 (some B)); clear hHeld HS hcp hsp Hh14 hfit; clear hai; go_wp2_with fail
        go_roundw
        case rel => exact ⟨k + 1, n', b, ba, bl, bc, by omega, by go_num, HRn, HOk, h12, HB, HM, Lib.hid (by have := Hn'.out; have e := Nat.succ_mul (k + 1) (8 ^ d); rw [Nat.succ_eq_add_one] at e; omega), h8, hgc⟩
        case measure => simp [intOf]; omega
       ·by_cases hnum : c.num ≤ 0
        ·have HRn := Lib.hid (show R = (List.range' (k + 1) (cs.length - (k + 1))).foldl (luF cs ss i u) b by
          have := fold_cons hlt HR.out
          rwa [luF_no (by unfold okK; rw [show elR cs k = false by unfold elR; rw [scAt_some hc]; exact decide_eq_false (by omega)]; simp)] at this)
         clear hu'; show Code.wp _ (Code.region 11 o65_11 true) _ _ _
         refine region_start 20 (fun w' => Below W14.heap.size W14 w' ∧ w'.cell? ⟨X2, 0, none⟩ = some (.slice (some ⟨sg, so, none⟩) ss.length sk) ∧ w'.cell? ⟨sg, so + i * 2, none⟩ = some (.string s.key) ∧ w'.cell? ⟨sg, so + i * 2 + 1, none⟩ = some (.slice sa' sn' sc'') ∧ w'.cell? ⟨X14, 0, none⟩ = some (.string c.who) ∧ w'.cell? ⟨X14, 1, none⟩ = some (.slice pa pl pc) ∧ w'.cell? ⟨X14, 2, none⟩ = some (.int .i64 c.num) ∧ w'.cell? ⟨X14, 3, none⟩ = some (.int .i64 c.den) ∧ w'.cell? ⟨X14, 4, none⟩ = some (.bool c.played)) (by kernel_rfl) rfl ?_ (fun hHeld => ?_)
         ·(exact HS.out _ (by first | assumption | exact hHeld.1))
         refine take_to 0 53 (bQ 20 1) (v := ?_) o65_11_0 rfl o65_11_ns (by kernel_rfl) (by kernel_rfl) (fun _ _ _ h => h) (by rfl) ?y0c (by assumption) ?_
         case y0c => intro w h; (try dsimp only at h); go_simp; try with_reducible rfl
         simp only [sE0, sE1]; refine take_to 1 54 (bQ 20 3) (v := ?_) o65_11_1 rfl o65_11_ns (by kernel_rfl) (by kernel_rfl) (fun _ _ _ h => h) (by rfl) ?y1c (by assumption) ?_
         case y1c => intro w h; (try dsimp only at h); go_simp; try with_reducible rfl
         simp only [sE0, sE1]; refine take_to 2 55 (bQ 20 7) (v := .int .i64 (sh : Int)) o65_11_2 rfl o65_11_ns (by kernel_rfl) (by kernel_rfl) (fun _ _ _ h => h) (by rfl) ?y2c (by assumption) ?_
         case y2c =>
          intro w hSw; try dsimp only at hSw
          go_simp; exact Hsh.out
         simp only [sE0, sE1]; refine take_to 3 56 (bQ 20 15) (v := .int .i64 (an : Int)) o65_11_3 rfl o65_11_ns (by kernel_rfl) (by kernel_rfl) (fun _ _ _ h => h) (by rfl) ?y3c (by assumption) ?_
         case y3c =>
          intro w hSw; try dsimp only at hSw
          go_simp; exact Han.out
         simp only [sE0, sE1]; refine take_to 4 57 (bQ 20 31) (v := .bool false) o65_11_4 rfl o65_11_ns (by kernel_rfl) (by kernel_rfl) (fun _ _ _ h => h) (by rfl) ?y4c (by assumption) ?_
         case y4c =>
          intro w hSw; try dsimp only at hSw
          go_simp
         simp only [sE0, sE1]; refine take_to 5 58 (bQ 20 63) (v := ?_) o65_11_5 rfl o65_11_ns (by kernel_rfl) (by kernel_rfl) (fun _ _ _ h => h) (by rfl) ?y5c (by assumption) ?_
         case y5c => intro w h; (try dsimp only at h); go_simp; try with_reducible rfl
         simp only [sE0, sE1]; refine take_to 6 59 (bQ 20 127) (v := ?_) o65_11_6 rfl o65_11_ns (by kernel_rfl) (by kernel_rfl) (fun _ _ _ h => h) (by rfl) ?y6c (by assumption) ?_
         case y6c => intro w h; (try dsimp only at h); go_simp; try with_reducible rfl
         simp only [sE0, sE1]; refine take_to 7 60 (bQ 20 255) (v := ?_) o65_11_7 rfl o65_11_ns (by kernel_rfl) (by kernel_rfl) (fun _ _ _ h => h) (by rfl) ?y7c (by assumption) ?_
         case y7c => intro w h; (try dsimp only at h); go_simp; try with_reducible rfl
         simp only [sE0, sE1]; refine take_to 8 61 (bQ 20 511) (v := ?_) o65_11_8 rfl o65_11_ns (by kernel_rfl) (by kernel_rfl) (fun _ _ _ h => h) (by rfl) ?y8c (by assumption) ?_
         case y8c => intro w h; (try dsimp only at h); go_simp; try with_reducible rfl
         simp only [sE0, sE1]; refine take_to 9 62 (bQ 20 1023) (v := ?_) o65_11_9 rfl o65_11_ns (by kernel_rfl) (by kernel_rfl) (fun _ _ _ h => h) (by rfl) ?y9c (by assumption) ?_
         case y9c => intro w h; (try dsimp only at h); go_simp; try with_reducible rfl
         simp only [sE0, sE1]; refine take_to 10 63 (bQ 20 2047) (v := ?_) o65_11_10 rfl o65_11_ns (by kernel_rfl) (by kernel_rfl) (fun _ _ _ h => h) (by rfl) ?y10c (by assumption) ?_
         case y10c => intro w h; (try dsimp only at h); go_simp; try with_reducible rfl
         simp only [sE0, sE1]; refine run_to 11 (bQ 20 4095) o65_11_11 (by kernel_rfl) (by kernel_rfl) (by rfl) (fun K hK => ?_)
         go_simp; refine (fit_calls _ _ _ _ c s _ hcp (hsp.below hb0)).mono ?_; rintro e w2 ⟨rfl, hb2⟩; have hbz := below_step hb0 hb2; go_wp2_with fail
         refine hK.out _ _ ?_ (fun hHeld => ?_)
         ·(exact HS.out _ (by first | assumption | exact hHeld.1))
         clear hK K; try simp only [Act.put, sEt, sE0, sE1]
         refine take_to 12 65 (bQ 20 8191) (v := ?_) o65_11_12 rfl o65_11_ns (by kernel_rfl) (by kernel_rfl) (fun _ _ _ h => h) (by rfl) ?y12c (by assumption) ?_
         case y12c => intro w h; (try dsimp only at h); go_simp; try with_reducible rfl
         simp only [sE0, sE1]; refine take_to 13 66 (bQ 20 16383) (v := ?_) o65_11_13 rfl o65_11_ns (by kernel_rfl) (by kernel_rfl) (fun _ _ _ h => h) (by rfl) ?y13c (by assumption) ?_
         case y13c => intro w h; (try dsimp only at h); go_simp; try with_reducible rfl
         simp only [sE0, sE1]; refine take_to 14 67 (bQ 20 32767) (v := ?_) o65_11_14 rfl o65_11_ns (by kernel_rfl) (by kernel_rfl) (fun _ _ _ h => h) (by rfl) ?y14c (by assumption) ?_
         case y14c => intro w h; (try dsimp only at h); go_simp; try with_reducible rfl
         simp only [sE0, sE1]; refine take_to 15 68 (bQ 20 65535) (v := ?_) o65_11_15 rfl o65_11_ns (by kernel_rfl) (by kernel_rfl) (fun _ _ _ h => h) (by rfl) ?y15c (by assumption) ?_
         case y15c => intro w h; (try dsimp only at h); go_simp; try with_reducible rfl
         simp only [sE0, sE1]; refine take_to 16 69 (bQ 20 131071) (v := ?_) o65_11_16 rfl o65_11_ns (by kernel_rfl) (by kernel_rfl) (fun _ _ _ h => h) (by rfl) ?y16c (by assumption) ?_
         case y16c => intro w h; (try dsimp only at h); go_simp; try with_reducible rfl
         simp only [sE0, sE1]; refine take_to 17 70 (bQ 20 262143) (v := ?_) o65_11_17 rfl o65_11_ns (by kernel_rfl) (by kernel_rfl) (fun _ _ _ h => h) (by rfl) ?y17c (by assumption) ?_
         case y17c => intro w h; (try dsimp only at h); go_simp; try with_reducible rfl
         simp only [sE0, sE1]; refine take_to 18 71 (bQ 20 524287) (v := ?_) o65_11_18 rfl o65_11_ns (by kernel_rfl) (by kernel_rfl) (fun _ _ _ h => h) (by rfl) ?y18c (by assumption) ?_
         case y18c => intro w h; (try dsimp only at h); go_simp; try with_reducible rfl
         simp only [sE0, sE1]; refine take_to 19 72 (bQ 20 1048575) (v := ?_) o65_11_19 rfl o65_11_ns (by kernel_rfl) (by kernel_rfl) (fun _ _ _ h => h) (by rfl) ?y19c (by assumption) ?_
         case y19c => intro w h; (try dsimp only at h); go_simp; try with_reducible rfl
         simp only [sE0, sE1]; refine wpAnyH_done (by kernel_rfl) ?_ _
         replace h8 := keep_heap h8 hb2; replace h12 := keep_heap h12 hb2; replace HB := Lib.hid (HB.out.below hb2); replace HM := Lib.hid (HM.out.below hb2); replace hgc := gb_trans hgc (gb_below hb2 (some B)); clear hHeld HS hcp hsp Hh14 hfit; clear hai; go_wp2_with fail
         go_roundw
         case rel => exact ⟨k + 1, n', b, ba, bl, bc, by omega, by go_num, HRn, HOk, h12, HB, HM, Lib.hid (by have := Hn'.out; have e := Nat.succ_mul (k + 1) (8 ^ d); rw [Nat.succ_eq_add_one] at e; omega), h8, hgc⟩
         case measure => simp [intOf]; omega
        ·have HRd := Lib.hid (show R = (List.range' (k + 1) (cs.length - (k + 1))).foldl (luF cs ss i u) (if better (candK (wAt cs) (luN cs ss (i + 1) (u ||| (1 <<< k))) k) b then candK (wAt cs) (luN cs ss (i + 1) (u ||| (1 <<< k))) k else b) by
          have := fold_cons hlt HR.out
          rwa [luF_yes (by unfold okK; rw [hu', show fitS cs ss i k = true by unfold fitS suitAt; rw [scAt_some hc, slAt_some hs, suit_fit, hfit], show elR cs k = true by unfold elR; rw [scAt_some hc]; exact decide_eq_true (by omega)]; rfl)] at this)
         clear hu' HR; show Code.wp _ (Code.region 11 o65_11 true) _ _ _
         refine region_start 20 (fun w' => Below W14.heap.size W14 w' ∧ w'.cell? ⟨X2, 0, none⟩ = some (.slice (some ⟨sg, so, none⟩) ss.length sk) ∧ w'.cell? ⟨sg, so + i * 2, none⟩ = some (.string s.key) ∧ w'.cell? ⟨sg, so + i * 2 + 1, none⟩ = some (.slice sa' sn' sc'') ∧ w'.cell? ⟨X14, 0, none⟩ = some (.string c.who) ∧ w'.cell? ⟨X14, 1, none⟩ = some (.slice pa pl pc) ∧ w'.cell? ⟨X14, 2, none⟩ = some (.int .i64 c.num) ∧ w'.cell? ⟨X14, 3, none⟩ = some (.int .i64 c.den) ∧ w'.cell? ⟨X14, 4, none⟩ = some (.bool c.played)) (by kernel_rfl) rfl ?_ (fun hHeld => ?_)
         ·(exact HS.out _ (by first | assumption | exact hHeld.1))
         refine take_to 0 53 (bQ 20 1) (v := ?_) o65_11_0 rfl o65_11_ns (by kernel_rfl) (by kernel_rfl) (fun _ _ _ h => h) (by rfl) ?y0d (by assumption) ?_
         case y0d => intro w h; (try dsimp only at h); go_simp; try with_reducible rfl
         simp only [sE0, sE1]; refine take_to 1 54 (bQ 20 3) (v := ?_) o65_11_1 rfl o65_11_ns (by kernel_rfl) (by kernel_rfl) (fun _ _ _ h => h) (by rfl) ?y1d (by assumption) ?_
         case y1d => intro w h; (try dsimp only at h); go_simp; try with_reducible rfl
         simp only [sE0, sE1]; refine take_to 2 55 (bQ 20 7) (v := .int .i64 (sh : Int)) o65_11_2 rfl o65_11_ns (by kernel_rfl) (by kernel_rfl) (fun _ _ _ h => h) (by rfl) ?y2d (by assumption) ?_
         case y2d =>
          intro w hSw; try dsimp only at hSw
          go_simp; exact Hsh.out
         simp only [sE0, sE1]; refine take_to 3 56 (bQ 20 15) (v := .int .i64 (an : Int)) o65_11_3 rfl o65_11_ns (by kernel_rfl) (by kernel_rfl) (fun _ _ _ h => h) (by rfl) ?y3d (by assumption) ?_
         case y3d =>
          intro w hSw; try dsimp only at hSw
          go_simp; exact Han.out
         simp only [sE0, sE1]; refine take_to 4 57 (bQ 20 31) (v := .bool false) o65_11_4 rfl o65_11_ns (by kernel_rfl) (by kernel_rfl) (fun _ _ _ h => h) (by rfl) ?y4d (by assumption) ?_
         case y4d =>
          intro w hSw; try dsimp only at hSw
          go_simp
         simp only [sE0, sE1]; refine take_to 5 58 (bQ 20 63) (v := ?_) o65_11_5 rfl o65_11_ns (by kernel_rfl) (by kernel_rfl) (fun _ _ _ h => h) (by rfl) ?y5d (by assumption) ?_
         case y5d => intro w h; (try dsimp only at h); go_simp; try with_reducible rfl
         simp only [sE0, sE1]; refine take_to 6 59 (bQ 20 127) (v := ?_) o65_11_6 rfl o65_11_ns (by kernel_rfl) (by kernel_rfl) (fun _ _ _ h => h) (by rfl) ?y6d (by assumption) ?_
         case y6d => intro w h; (try dsimp only at h); go_simp; try with_reducible rfl
         simp only [sE0, sE1]; refine take_to 7 60 (bQ 20 255) (v := ?_) o65_11_7 rfl o65_11_ns (by kernel_rfl) (by kernel_rfl) (fun _ _ _ h => h) (by rfl) ?y7d (by assumption) ?_
         case y7d => intro w h; (try dsimp only at h); go_simp; try with_reducible rfl
         simp only [sE0, sE1]; refine take_to 8 61 (bQ 20 511) (v := ?_) o65_11_8 rfl o65_11_ns (by kernel_rfl) (by kernel_rfl) (fun _ _ _ h => h) (by rfl) ?y8d (by assumption) ?_
         case y8d => intro w h; (try dsimp only at h); go_simp; try with_reducible rfl
         simp only [sE0, sE1]; refine take_to 9 62 (bQ 20 1023) (v := ?_) o65_11_9 rfl o65_11_ns (by kernel_rfl) (by kernel_rfl) (fun _ _ _ h => h) (by rfl) ?y9d (by assumption) ?_
         case y9d => intro w h; (try dsimp only at h); go_simp; try with_reducible rfl
         simp only [sE0, sE1]; refine take_to 10 63 (bQ 20 2047) (v := ?_) o65_11_10 rfl o65_11_ns (by kernel_rfl) (by kernel_rfl) (fun _ _ _ h => h) (by rfl) ?y10d (by assumption) ?_
         case y10d => intro w h; (try dsimp only at h); go_simp; try with_reducible rfl
         simp only [sE0, sE1]; refine run_to 11 (bQ 20 4095) o65_11_11 (by kernel_rfl) (by kernel_rfl) (by rfl) (fun K hK => ?_)
         go_simp; refine (fit_calls _ _ _ _ c s _ hcp (hsp.below hb0)).mono ?_; rintro e w2 ⟨rfl, hb2⟩; have hbz := below_step hb0 hb2; go_wp2_with fail
         refine hK.out _ _ ?_ (fun hHeld => ?_)
         ·(exact HS.out _ (by first | assumption | exact hHeld.1))
         clear hK K; try simp only [Act.put, sEt, sE0, sE1]
         refine take_to 12 65 (bQ 20 8191) (v := ?_) o65_11_12 rfl o65_11_ns (by kernel_rfl) (by kernel_rfl) (fun _ _ _ h => h) (by rfl) ?y12d (by assumption) ?_
         case y12d => intro w h; (try dsimp only at h); go_simp; try with_reducible rfl
         simp only [sE0, sE1]; refine take_to 13 66 (bQ 20 16383) (v := ?_) o65_11_13 rfl o65_11_ns (by kernel_rfl) (by kernel_rfl) (fun _ _ _ h => h) (by rfl) ?y13d (by assumption) ?_
         case y13d => intro w h; (try dsimp only at h); go_simp; try with_reducible rfl
         simp only [sE0, sE1]; refine take_to 14 67 (bQ 20 32767) (v := ?_) o65_11_14 rfl o65_11_ns (by kernel_rfl) (by kernel_rfl) (fun _ _ _ h => h) (by rfl) ?y14d (by assumption) ?_
         case y14d => intro w h; (try dsimp only at h); go_simp; try with_reducible rfl
         simp only [sE0, sE1]; refine take_to 15 68 (bQ 20 65535) (v := ?_) o65_11_15 rfl o65_11_ns (by kernel_rfl) (by kernel_rfl) (fun _ _ _ h => h) (by rfl) ?y15d (by assumption) ?_
         case y15d => intro w h; (try dsimp only at h); go_simp; try with_reducible rfl
         simp only [sE0, sE1]; refine take_to 16 69 (bQ 20 131071) (v := ?_) o65_11_16 rfl o65_11_ns (by kernel_rfl) (by kernel_rfl) (fun _ _ _ h => h) (by rfl) ?y16d (by assumption) ?_
         case y16d => intro w h; (try dsimp only at h); go_simp; try with_reducible rfl
         simp only [sE0, sE1]; refine take_to 17 70 (bQ 20 262143) (v := ?_) o65_11_17 rfl o65_11_ns (by kernel_rfl) (by kernel_rfl) (fun _ _ _ h => h) (by rfl) ?y17d (by assumption) ?_
         case y17d => intro w h; (try dsimp only at h); go_simp; try with_reducible rfl
         simp only [sE0, sE1]; refine take_to 18 71 (bQ 20 524287) (v := ?_) o65_11_18 rfl o65_11_ns (by kernel_rfl) (by kernel_rfl) (fun _ _ _ h => h) (by rfl) ?y18d (by assumption) ?_
         case y18d => intro w h; (try dsimp only at h); go_simp; try with_reducible rfl
         simp only [sE0, sE1]; refine take_to 19 72 (bQ 20 1048575) (v := ?_) o65_11_19 rfl o65_11_ns (by kernel_rfl) (by kernel_rfl) (fun _ _ _ h => h) (by rfl) ?y19d (by assumption) ?_
         case y19d => intro w h; (try dsimp only at h); go_simp; try with_reducible rfl
         simp only [sE0, sE1]; refine wpAnyH_done (by kernel_rfl) ?_ _
         replace h8 := keep_heap h8 hb2; replace h12 := keep_heap h12 hb2; replace HB := Lib.hid (HB.out.below hb2); replace HM := Lib.hid (HM.out.below hb2); replace hgc := gb_trans hgc (gb_below hb2 (some B)); have h14 := Hh14.out _ hbz; clear hHeld HS hcp hsp Hh14 hfit hai Hsh Han Han0; go_upto_region 12 with fail
         clear hnum; have hmem := List.mem_of_getElem? hc; have hfc := Hfw.out c hmem; have hsz := Hne.out c hmem; have hwk : wAt cs k = ptH c := by unfold wAt wthC; rw [scAt_some hc, if_neg hsz]
         have hky : nameOf cs (k + 1) = c.who := by unfold nameOf; rw [if_neg (by omega), Nat.add_sub_cancel, scAt_some hc]
         obtain ⟨hd1, hd2, hp1, hp2⟩ := hfc hsz; have C13 := Lib.hid (fun W' : World => (show Calls Tryz.prog 64 #[.agg #[.int .i64 c.num, .int .i64 c.den]] W' (fun e w' => e = .returned (.int .i64 (ptH c)) ∧ Below W'.heap.size W' w') from hundredthsR_calls c.num c.den W' hd1 (show Int64 (ptH c) by unfold Int64; omega) hd2))
         generalize ptH c = pp at C13 hwk hp1 hp2
         obtain ⟨u2, hu2⟩ : ∃ u2, u2 = u ||| (1 <<< k) := ⟨_, rfl⟩
         have hsl : 1 <<< k < 64 := by
          rw [Nat.one_shiftLeft]; exact (Nat.pow_lt_pow_right (a := 2) (by omega) (show k < 6 by omega) : 2 ^ k < 2 ^ 6)
         obtain ⟨sl, hsl'⟩ : ∃ sl, sl = 1 <<< k := ⟨_, rfl⟩
         have Hsl := Lib.hid (show IntKind.i64.wrap ((2 : Int) ^ k) = (sl : Int) by
          have h : (2 : Int) ^ k = (sl : Int) := by rw [hsl']; have h := shl_one k; simpa using h
          exact (congrArg IntKind.i64.wrap h).trans (wrap_nat sl (by rw [hsl']; exact hsl)))
         rw [← hsl'] at hu2 hsl HRd
         have hu64 : u2 < 64 := by rw [hu2]; exact Nat.or_lt_two_pow (n := 6) hu hsl
         have Hor := Lib.hid (show bits .or .i64 (u : Int) (sl : Int) = (u2 : Int) by rw [hu2]; exact bits_or64 u sl hu hsl)
         rw [← hu2] at HRd
         clear hu2 hsl'; have hrr := Hok.out u2; generalize hrn : luN cs ss (i + 1) u2 = rr at hrr HRd
         have Hrr := Lib.hid hrr; have Hi1 := Lib.hid (wrap_small (x := (i : Int) + 1) (by omega) (by omega))
         have hrb1 := hrr.s1; have hrb2 := hrr.s2; have hrb3 := hrr.many; have hd3 : d ≤ 3 := by omega
         have hin : n' + 8 ^ d ≤ 100000 := by
          have h1 := Hn'.out; have h2 := Nat.mul_le_mul_right (8 ^ d) (show k + 1 + 1 ≤ 8 by omega)
          have h3 : (k + 1 + 1) * 8 ^ d = (k + 1) * 8 ^ d + 8 ^ d := by rw [Nat.succ_mul]
          omega
         have C12 := Lib.hid (fun (W' : World) (hg' : w.grownBy W' (some B)) (hM' : MQ cs ss B n' W') => (show Calls Tryz.prog 65 #[.int .i64 ((i : Int) + 1), .int .i64 (u2 : Int), .pointer (some ⟨X2, 0, none⟩), .pointer (some ⟨X3, 0, none⟩), .pointer (some ⟨X4, 0, none⟩), .pointer (some ⟨X5, 0, none⟩)] W' (fun e w' => ∃ (ya : Option Addr) (yl yc n6 : Nat), e = .returned (.agg #[.int .i64 rr.sum, .int .i64 (rr.many : Int), .slice ya yl yc]) ∧ Strs w' (B + 1) (.slice ya yl yc) (List.map (nameOf cs) rr.who) ∧ W'.grownBy w' (some B) ∧ n6 ≤ n' + 8 ^ d ∧ MQ cs ss B n6 w') from by
          refine (IH.out (i + 1) u2 n' W' (by omega) hu64 hin (gb_trans Hg.out hg') hM').mono ?_
          rintro e w' ⟨x, n6, rfl, a1, a2, a3, a4⟩; rw [hrn] at a1 ⊢
          obtain ⟨ya, yl, yc, rfl⟩ := strs_shapeN a1; exact ⟨ya, yl, yc, n6, rfl, a1, a2, a3, a4⟩))
         clear hrn hin hfc hsz hmem hrr hd1 hd2 hsl; have z14 : w.heap.size ≤ X14 := by have := hgw0.size; omega
         replace h8 : w2.drew.heap[X8]? = _ := h8
         replace h12 : w2.drew.heap[X12]? = _ := h12
         replace h14 : w2.drew.heap[X14]? = _ := h14
         replace HB := Lib.hid (HB.out.below ((Below.refl w2.heap.size w2).drew)); replace HM := Lib.hid HM.out.drew; replace hgc := gb_drewN' hgc; have hC := (HF.out _ (gb_trans Hg.out hgc)).x4; have n14 := n14a; clear hbz hb2 hb0; show Code.wp _ (Code.region 12 o65_12 true) _ _ _
         refine regionC_start 10 (fun w' => w'.cell? ⟨X4, 0, none⟩ = some (.func (.func 65) #[] #[.pointer (some ⟨X2, 0, none⟩), .pointer (some ⟨X3, 0, none⟩), .pointer (some ⟨X4, 0, none⟩), .pointer (some ⟨X5, 0, none⟩)])) (fun j => [0, 7, 8].contains j) (by kernel_rfl) rfl ?_
         clear hC; generalize w2.drew = W0 at h8 h12 h14 HB HM hgc ⊢
         have hC := (HF.out _ (gb_trans Hg.out hgc)).x4; apply shareQ (C := fun (ya : Option Addr) (yl yc n6 X15 : Nat) (W : World) => W.heap[X8]? = some (.cells #[.int .i64 0, .int .i64 0, .slice none 0 0] 103 (0, 0)) ∧ W.heap[X12]? = some (.cells #[.int .i64 b.sum, .int .i64 (b.many : Int), .slice ba bl bc] 103 (0, 0)) ∧ W.heap[X14]? = some (.cells #[.string c.who, .slice pa pl pc, .int .i64 c.num, .int .i64 c.den, .bool c.played] 77 (0, 0)) ∧ W.heap[X15]? = some (.cells #[.int .i64 0, .int .i64 0, .slice none 0 0] 103 (0, 0)) ∧ Strs W (B + 1) (.slice ba bl bc) (List.map (nameOf cs) b.who) ∧ Strs W (B + 1) (.slice ya yl yc) (List.map (nameOf cs) rr.who) ∧ n6 ≤ n' + 8 ^ d ∧ MQ cs ss B n6 W ∧ w.grownBy W (some B) ∧ w.heap.size ≤ X15 ∧ X15 ≠ X8 ∧ X15 ≠ X12 ∧ X15 ≠ X14)
         ·intro tail
          refine takeC 1 74 (v := ?_) o65_12_1 rfl (by kernel_rfl) (by kernel_rfl) (by kernel_rfl) (by rfl) (fun _ _ _ h => h) (by rfl) ?y1_1 ?_
          case y1_1 => intro w; go_simp; try with_reducible rfl
          simp only [sE0, sE1]; refine takeC 2 75 (v := .int .i64 ((i : Int) + 1)) o65_12_2 rfl (by kernel_rfl) (by kernel_rfl) (by kernel_rfl) (by rfl) (fun _ _ _ h => h) (by rfl) ?y2_2 ?_
          case y2_2 =>
           intro w; go_simp; try exact Hi1.out
          simp only [sE0, sE1]; refine takeC 3 76 (v := ?_) o65_12_3 rfl (by kernel_rfl) (by kernel_rfl) (by kernel_rfl) (by rfl) (fun _ _ _ h => h) (by rfl) ?y3_3 ?_
          case y3_3 => intro w; go_simp; try with_reducible rfl
          simp only [sE0, sE1]; refine takeC 4 77 (v := ?_) o65_12_4 rfl (by kernel_rfl) (by kernel_rfl) (by kernel_rfl) (by rfl) (fun _ _ _ h => h) (by rfl) ?y4_4 ?_
          case y4_4 => intro w; go_simp; try with_reducible rfl
          simp only [sE0, sE1]; refine takeC 5 78 (v := .int .i64 (sl : Int)) o65_12_5 rfl (by kernel_rfl) (by kernel_rfl) (by kernel_rfl) (by rfl) (fun _ _ _ h => h) (by rfl) ?y5_5 ?_
          case y5_5 =>
           intro w; go_simp; exact Hsl.out
          simp only [sE0, sE1]; refine takeC 6 79 (v := .int .i64 (u2 : Int)) o65_12_6 rfl (by kernel_rfl) (by kernel_rfl) (by kernel_rfl) (by rfl) (fun _ _ _ h => h) (by rfl) ?y6_6 ?_
          case y6_6 =>
           intro w; go_simp; exact Hor.out
          simp only [sE0, sE1]; refine loadC 0 73 (v := ?_) o65_12_0 rfl (by kernel_rfl) (by kernel_rfl) (by kernel_rfl) (by kernel_rfl) (fun _ _ _ h => h) (by rfl) ?y0_7 (by exact hC) ?_
          case y0_7 => intro w h; (try dsimp only at h); go_simp; try with_reducible rfl
          simp only [sE0, sE1]; refine readyC (rs := [7, 8]) (by kernel_rfl) (by simp) (each_cons (runC o65_12_7 (by rfl) (fun K hK => ?_)) (each_cons (runC o65_12_8 (by rfl) (fun K hK => ?_)) each_nil))
          ·go_simp
           refine (C12.out _ hgc HM.out).mono ?_; rintro e w6 ⟨ya, yl, yc, n6, rfl, hs6, hg6, hn6, hM6⟩; replace h8 := heap_gb h8 hg6 (by omega)
           replace h12 := heap_gb h12 hg6 (by omega)
           replace h14 := heap_gb h14 hg6 (by omega)
           try replace h15 := heap_gb h15 hg6 (by omega)
           replace HB := Lib.hid (HB.out.other hg6 (by omega))
           replace HM := Lib.hid hM6; have HS := Lib.hid hs6; replace hgc := gb_trans hgc hg6; replace hC := (HF.out _ (gb_trans Hg.out hgc)).x4; clear hs6 hM6 hg6; go_wp2_with fail
           refine hK.out _ _ (fun _ => ?_) ?_
           ·(exact hC)
           clear hK K; try simp only [Act.put, sEt, sE0, sE1]
           refine readyC (rs := [8]) (by kernel_rfl) (by simp) (each_cons (runC o65_12_8 (by rfl) (fun K hK => ?_)) each_nil)
           go_simp; obtain ⟨X15, W15, eX15, fX15, h15, hb15⟩ := any_box _ (.cells #[.int .i64 0, .int .i64 0, .slice none 0 0] 103); rw [fX15, eX15]; clear fX15; have z15 : w.heap.size ≤ X15 := by have := hgc.size; omega
           have n15 : X15 ≠ X8 ∧ X15 ≠ X12 ∧ X15 ≠ X14 := by have := lt_of_heap h8; have := lt_of_heap h12; have := lt_of_heap h14; omega
           clear eX15; try replace h8 := keep_heap h8 hb15
           try replace h11 := keep_heap h11 hb15
           try replace h12 := keep_heap h12 hb15
           try replace h14 := keep_heap h14 hb15
           try replace h15 := keep_heap h15 hb15
           try replace h16 := keep_heap h16 hb15
           try replace hG := keep_heap hG hb15
           try replace HS := Lib.hid (HS.out.below hb15)
           try replace HV := Lib.hid (HV.out.below hb15)
           try replace HB := Lib.hid (HB.out.below hb15)
           replace HM := Lib.hid (HM.out.below hb15); replace hgc := gb_trans hgc (gb_below hb15 _); replace hC := (HF.out _ (gb_trans Hg.out hgc)).x4; go_wp2_with fail
           refine hK.out _ _ (fun _ => ?_) ?_
           ·(exact hC)
           clear hK K; try simp only [Act.put, sEt, sE0, sE1]
           refine sameC (l' := (bQ 10 511)) (by kernel_rfl) ?_
           first | exact tail ya yl yc n6 X15 w6 ⟨h8, h12, h14, h15, HB.out, HS.out, hn6, HM.out, hgc, z15, n15⟩ | exact tail ya yl yc n6 X15 W15 ⟨h8, h12, h14, h15, HB.out, HS.out, hn6, HM.out, hgc, z15, n15⟩
          ·go_simp
           obtain ⟨X15, W15, eX15, fX15, h15, hb15⟩ := any_box _ (.cells #[.int .i64 0, .int .i64 0, .slice none 0 0] 103); rw [fX15, eX15]; clear fX15; have z15 : w.heap.size ≤ X15 := by have := hgc.size; omega
           have n15 : X15 ≠ X8 ∧ X15 ≠ X12 ∧ X15 ≠ X14 := by have := lt_of_heap h8; have := lt_of_heap h12; have := lt_of_heap h14; omega
           clear eX15; try replace h8 := keep_heap h8 hb15
           try replace h11 := keep_heap h11 hb15
           try replace h12 := keep_heap h12 hb15
           try replace h14 := keep_heap h14 hb15
           try replace h15 := keep_heap h15 hb15
           try replace h16 := keep_heap h16 hb15
           try replace hG := keep_heap hG hb15
           try replace HS := Lib.hid (HS.out.below hb15)
           try replace HV := Lib.hid (HV.out.below hb15)
           try replace HB := Lib.hid (HB.out.below hb15)
           replace HM := Lib.hid (HM.out.below hb15); replace hgc := gb_trans hgc (gb_below hb15 _); replace hC := (HF.out _ (gb_trans Hg.out hgc)).x4; go_wp2_with fail
           refine hK.out _ _ (fun _ => ?_) ?_
           ·(exact hC)
           clear hK K; try simp only [Act.put, sEt, sE0, sE1]
           refine readyC (rs := [7]) (by kernel_rfl) (by simp) (each_cons (runC o65_12_7 (by rfl) (fun K hK => ?_)) each_nil)
           go_simp; refine (C12.out _ hgc HM.out).mono ?_; rintro e w6 ⟨ya, yl, yc, n6, rfl, hs6, hg6, hn6, hM6⟩; replace h8 := heap_gb h8 hg6 (by omega)
           replace h12 := heap_gb h12 hg6 (by omega)
           replace h14 := heap_gb h14 hg6 (by omega)
           try replace h15 := heap_gb h15 hg6 (by omega)
           replace HB := Lib.hid (HB.out.other hg6 (by omega))
           replace HM := Lib.hid hM6; have HS := Lib.hid hs6; replace hgc := gb_trans hgc hg6; replace hC := (HF.out _ (gb_trans Hg.out hgc)).x4; clear hs6 hM6 hg6; go_wp2_with fail
           refine hK.out _ _ (fun _ => ?_) ?_
           ·(exact hC)
           clear hK K; try simp only [Act.put, sEt, sE0, sE1]
           refine sameC (l' := (bQ 10 511)) (by kernel_rfl) ?_
           first | exact tail ya yl yc n6 X15 w6 ⟨h8, h12, h14, h15, HB.out, HS.out, hn6, HM.out, hgc, z15, n15⟩ | exact tail ya yl yc n6 X15 W15 ⟨h8, h12, h14, h15, HB.out, HS.out, hn6, HM.out, hgc, z15, n15⟩
         ·intro ya yl yc n6 X15 W7 ⟨h8, h12, h14, h15, hB, hS, hn6, hM, hgc, z15, n15⟩
          have HB := Lib.hid hB; have HS := Lib.hid hS; have HM := Lib.hid hM; clear hB hS hM; refine readyC (rs := [9]) (by kernel_rfl) (by simp) (each_cons (runC o65_12_9 (by rfl) (fun K hK => ?_)) each_nil)
          obtain ⟨z0, z1, z2⟩ := lu_cells h15; have f0 := free_of h15 0; have f1 := free_of h15 1; have f2 := free_of h15 2; go_simp; obtain ⟨W16, e16, h15n, k16, s16, g16⟩ := set_lu h15 (.int .i64 rr.sum) (.int .i64 (rr.many : Int)) (.slice ya yl yc); rw [e16]; replace h8 := k16 _ _ h8 (by omega)
          replace h12 := k16 _ _ h12 (by omega)
          replace h14 := k16 _ _ h14 (by omega)
          replace HB := Lib.hid (s16 _ _ _ HB.out); replace HS := Lib.hid (s16 _ _ _ HS.out); replace HM := Lib.hid (HM.out.step g16 (by intro e; cases e; omega) s16)
          replace hgc := gb_then hgc g16 (fun r hr => by cases hr; exact z15)
          replace h15 := h15n; clear e16 k16 s16 g16 h15n z0 z1 z2 f0 f1 f2; refine hK.out _ _ (fun h => absurd h (by decide)) ?_
          clear hK K; try simp only [sEt, sE0, sE1]
          refine doneC (by kernel_rfl) ?_ _
          go_upto_region 13 with fail
          replace h8 : W16.drew.heap[X8]? = _ := h8
          replace h12 : W16.drew.heap[X12]? = _ := h12
          replace h14 : W16.drew.heap[X14]? = _ := h14
          replace h15 : W16.drew.heap[X15]? = _ := h15
          replace HB := Lib.hid (HB.out.below ((Below.refl W16.heap.size W16).drew)); replace HS := Lib.hid (HS.out.below ((Below.refl W16.heap.size W16).drew)); replace HM := Lib.hid HM.out.drew; replace hgc := gb_drewN' hgc; have hC := s13_cells h15 h14; have Hw1 := Lib.hid (wrap_small (x := rr.sum + pp) (by omega) (by omega))
          have Hw2 := Lib.hid (wrap_small (x := (rr.many : Int) + 1) (by omega) (by omega))
          have hlr : (List.map (nameOf cs) rr.who).length ≤ 1000 := by rw [List.length_map, Hrr.out.len]; omega
          clear hrb1 hrb2 hrb3 hp1 hp2 C12; show Code.wp _ (Code.region 13 o65_13 true) _ _ _
          refine regionC_start 18 (fun w' => (w'.cell? ⟨X15, 0, none⟩ = some (.int .i64 rr.sum) ∧ w'.cell? ⟨X15, 1, none⟩ = some (.int .i64 (rr.many : Int)) ∧ w'.cell? ⟨X15, 2, none⟩ = some (.slice ya yl yc)) ∧ w'.cell? ⟨X14, 0, none⟩ = some (.string c.who) ∧ w'.cell? ⟨X14, 2, none⟩ = some (.int .i64 c.num) ∧ w'.cell? ⟨X14, 3, none⟩ = some (.int .i64 c.den)) (fun j => [1, 3, 4, 5, 7, 8, 10, 11, 13, 14, 16].contains j) (by kernel_rfl) rfl ?_
          clear hC; generalize W16.drew = W0 at h8 h12 h14 h15 HB HS HM hgc ⊢
          have hC := s13_cells h15 h14; apply shareQ (C := fun (va : Option Addr) (vl vc X16 G : Nat) (W : World) => W.heap[X8]? = some (.cells #[.int .i64 0, .int .i64 0, .slice none 0 0] 103 (0, 0)) ∧ W.heap[X12]? = some (.cells #[.int .i64 b.sum, .int .i64 (b.many : Int), .slice ba bl bc] 103 (0, 0)) ∧ W.heap[X16]? = some (.cells #[.int .i64 0, .int .i64 0, .slice none 0 0] 103 (0, 0)) ∧ Strs W (B + 1) (.slice ba bl bc) (List.map (nameOf cs) b.who) ∧ Strs W (B + 1) (.slice va vl vc) (c.who :: List.map (nameOf cs) rr.who) ∧ MQ cs ss B n6 W ∧ w.grownBy W (some B) ∧ w.heap.size ≤ X16 ∧ X16 ≠ X8 ∧ X16 ≠ X12)
          ·intro tail
           refine takeC 0 81 (v := ?_) o65_13_0 rfl (by kernel_rfl) (by kernel_rfl) (by kernel_rfl) (by rfl) (fun _ _ _ h => h) (by rfl) ?y0_1 ?_
           case y0_1 => intro w; go_simp; try with_reducible rfl
           simp only [sE0, sE1]; refine takeC 2 83 (v := ?_) o65_13_2 rfl (by kernel_rfl) (by kernel_rfl) (by kernel_rfl) (by rfl) (fun _ _ _ h => h) (by rfl) ?y2_2 ?_
           case y2_2 => intro w; go_simp; try with_reducible rfl
           simp only [sE0, sE1]; refine takeC 6 87 (v := ?_) o65_13_6 rfl (by kernel_rfl) (by kernel_rfl) (by kernel_rfl) (by rfl) (fun _ _ _ h => h) (by rfl) ?y6_3 ?_
           case y6_3 => intro w; go_simp; try with_reducible rfl
           simp only [sE0, sE1]; refine takeC 9 90 (v := ?_) o65_13_9 rfl (by kernel_rfl) (by kernel_rfl) (by kernel_rfl) (by rfl) (fun _ _ _ h => h) (by rfl) ?y9_4 ?_
           case y9_4 => intro w; go_simp; try with_reducible rfl
           simp only [sE0, sE1]; refine takeC 12 93 (v := ?_) o65_13_12 rfl (by kernel_rfl) (by kernel_rfl) (by kernel_rfl) (by rfl) (fun _ _ _ h => h) (by rfl) ?y12_5 ?_
           case y12_5 => intro w; go_simp; try with_reducible rfl
           simp only [sE0, sE1]; refine loadC 1 82 (v := ?_) o65_13_1 rfl (by kernel_rfl) (by kernel_rfl) (by kernel_rfl) (by kernel_rfl) (fun _ _ _ h => h) (by rfl) ?y1_6 (by exact hC) ?_
           case y1_6 => intro w h; (try dsimp only at h); go_simp; try with_reducible rfl
           simp only [sE0, sE1]; refine loadC 3 84 (v := ?_) o65_13_3 rfl (by kernel_rfl) (by kernel_rfl) (by kernel_rfl) (by kernel_rfl) (fun _ _ _ h => h) (by rfl) ?y3_7 (by exact hC) ?_
           case y3_7 => intro w h; (try dsimp only at h); go_simp; try with_reducible rfl
           simp only [sE0, sE1]; refine loadC 7 88 (v := ?_) o65_13_7 rfl (by kernel_rfl) (by kernel_rfl) (by kernel_rfl) (by kernel_rfl) (fun _ _ _ h => h) (by rfl) ?y7_8 (by exact hC) ?_
           case y7_8 => intro w h; (try dsimp only at h); go_simp; try with_reducible rfl
           simp only [sE0, sE1]; refine loadC 8 89 (v := .int .i64 ((rr.many : Int) + 1)) o65_13_8 rfl (by kernel_rfl) (by kernel_rfl) (by kernel_rfl) (by kernel_rfl) (fun _ _ _ h => h) (by rfl) ?y8_9 (by exact hC) ?_
           case y8_9 =>
            intro w hSw; try dsimp only at hSw
            go_simp; exact Hw2.out
           simp only [sE0, sE1]; refine loadC 10 91 (v := ?_) o65_13_10 rfl (by kernel_rfl) (by kernel_rfl) (by kernel_rfl) (by kernel_rfl) (fun _ _ _ h => h) (by rfl) ?y10_10 (by exact hC) ?_
           case y10_10 => intro w h; (try dsimp only at h); go_simp; try with_reducible rfl
           simp only [sE0, sE1]; refine loadC 13 94 (v := ?_) o65_13_13 rfl (by kernel_rfl) (by kernel_rfl) (by kernel_rfl) (by kernel_rfl) (fun _ _ _ h => h) (by rfl) ?y13_11 (by exact hC) ?_
           case y13_11 => intro w h; (try dsimp only at h); go_simp; try with_reducible rfl
           simp only [sE0, sE1]; refine readyC (rs := [4, 11, 16]) (by kernel_rfl) (by simp) (each_cons (runC o65_13_4 (by rfl) (fun K hK => ?_)) (each_cons (runC o65_13_11 (by rfl) (fun K hK => ?_)) (each_cons (runC o65_13_16 (by rfl) (fun K hK => ?_)) each_nil)))
           ·go_simp
            refine (C13.out _).mono ?_; rintro e w7 ⟨rfl, hb7'⟩; try replace h8 := keep_heap h8 hb7'
            try replace h11 := keep_heap h11 hb7'
            try replace h12 := keep_heap h12 hb7'
            try replace h14 := keep_heap h14 hb7'
            try replace h15 := keep_heap h15 hb7'
            try replace h16 := keep_heap h16 hb7'
            try replace hG := keep_heap hG hb7'
            try replace HS := Lib.hid (HS.out.below hb7')
            try replace HV := Lib.hid (HV.out.below hb7')
            try replace HB := Lib.hid (HB.out.below hb7')
            replace HM := Lib.hid (HM.out.below hb7'); replace hgc := gb_trans hgc (gb_below hb7' _); replace hC := s13_cells h15 h14; go_wp2_with fail
            refine hK.out _ _ (fun _ => ?_) ?_
            ·(exact hC)
            clear hK K; try simp only [Act.put, sEt, sE0, sE1]
            refine loadC 5 86 (v := .int .i64 (rr.sum + pp)) o65_13_5 rfl (by kernel_rfl) (by kernel_rfl) (by kernel_rfl) (by kernel_rfl) (fun _ _ _ h => h) (by rfl) ?y5_12 (by exact hC) ?_
            case y5_12 =>
             intro w hSw; try dsimp only at hSw
             go_simp; exact Hw1.out
            simp only [sE0, sE1]; refine readyC (rs := [11, 16]) (by kernel_rfl) (by simp) (each_cons (runC o65_13_11 (by rfl) (fun K hK => ?_)) (each_cons (runC o65_13_16 (by rfl) (fun K hK => ?_)) each_nil))
            ·go_simp
             obtain ⟨G, W4, eG, fG, hG, hbG⟩ := any_box _ (.cells #[.string c.who] 9); rw [fG, eG]; clear fG; have zG : B + 1 ≤ G := by have := HM.out.lt; omega
             clear eG; try replace h8 := keep_heap h8 hbG
             try replace h11 := keep_heap h11 hbG
             try replace h12 := keep_heap h12 hbG
             try replace h14 := keep_heap h14 hbG
             try replace h15 := keep_heap h15 hbG
             try replace h16 := keep_heap h16 hbG
             try replace hG := keep_heap hG hbG
             try replace HS := Lib.hid (HS.out.below hbG)
             try replace HV := Lib.hid (HV.out.below hbG)
             try replace HB := Lib.hid (HB.out.below hbG)
             replace HM := Lib.hid (HM.out.below hbG); replace hgc := gb_trans hgc (gb_below hbG _); replace hC := s13_cells h15 h14; go_wp2_with fail
             refine hK.out _ _ (fun _ => ?_) ?_
             ·(exact hC)
             clear hK K; try simp only [Act.put, sEt, sE0, sE1]
             refine readyC (rs := [14, 16]) (by kernel_rfl) (by simp) (each_cons (runC o65_13_14 (by rfl) (fun K hK => ?_)) (each_cons (runC o65_13_16 (by rfl) (fun K hK => ?_)) each_nil))
             ·refine wp_append_full _ (Operand.tmp 92) (Operand.tmp 94) rfl G _ _ _ _ rfl rfl hG HS.out hlr ?_
              intro v7 W77 hV hb7; obtain ⟨va, vl, vc, rfl⟩ := strs_shapeN hV; have HV := Lib.hid (hV.mono zG); clear hV; try replace h8 := keep_heap h8 hb7
              try replace h11 := keep_heap h11 hb7
              try replace h12 := keep_heap h12 hb7
              try replace h14 := keep_heap h14 hb7
              try replace h15 := keep_heap h15 hb7
              try replace h16 := keep_heap h16 hb7
              try replace hG := keep_heap hG hb7
              try replace HS := Lib.hid (HS.out.below hb7)
              try replace HB := Lib.hid (HB.out.below hb7)
              replace HM := Lib.hid (HM.out.below hb7); replace hgc := gb_trans hgc (gb_below hb7 _); replace hC := s13_cells h15 h14; refine hK.out _ _ (fun _ => ?_) ?_
              ·(exact hC)
              clear hK K; try simp only [Act.put, sEt, sE0, sE1]
              refine takeC 15 96 (v := ?_) o65_13_15 rfl (by kernel_rfl) (by kernel_rfl) (by kernel_rfl) (by rfl) (fun _ _ _ h => h) (by rfl) ?y15_13 ?_
              case y15_13 => intro w; go_simp; try with_reducible rfl
              simp only [sE0, sE1]; refine readyC (rs := [16]) (by kernel_rfl) (by simp) (each_cons (runC o65_13_16 (by rfl) (fun K hK => ?_)) each_nil)
              go_simp; obtain ⟨X16, W12, eX16, fX16, h16, hb16⟩ := any_box _ (.cells #[.int .i64 0, .int .i64 0, .slice none 0 0] 103); rw [fX16, eX16]; clear fX16; have z16 : w.heap.size ≤ X16 := by have := hgc.size; omega
              have n16 : X16 ≠ X8 ∧ X16 ≠ X12 := by have := lt_of_heap h8; have := lt_of_heap h12; omega
              clear eX16; try replace h8 := keep_heap h8 hb16
              try replace h11 := keep_heap h11 hb16
              try replace h12 := keep_heap h12 hb16
              try replace h14 := keep_heap h14 hb16
              try replace h15 := keep_heap h15 hb16
              try replace h16 := keep_heap h16 hb16
              try replace hG := keep_heap hG hb16
              try replace HS := Lib.hid (HS.out.below hb16)
              try replace HV := Lib.hid (HV.out.below hb16)
              try replace HB := Lib.hid (HB.out.below hb16)
              replace HM := Lib.hid (HM.out.below hb16); replace hgc := gb_trans hgc (gb_below hb16 _); replace hC := s13_cells h15 h14; go_wp2_with fail
              refine hK.out _ _ (fun _ => ?_) ?_
              ·(exact hC)
              clear hK K; try simp only [Act.put, sEt, sE0, sE1]
              refine sameC (l' := (bQ 18 131071)) (by kernel_rfl) ?_
              first | exact tail va vl vc X16 G W77 ⟨h8, h12, h16, HB.out, HV.out, HM.out, hgc, z16, n16⟩ | exact tail va vl vc X16 G W4 ⟨h8, h12, h16, HB.out, HV.out, HM.out, hgc, z16, n16⟩ | exact tail va vl vc X16 G W12 ⟨h8, h12, h16, HB.out, HV.out, HM.out, hgc, z16, n16⟩ | exact tail va vl vc X16 G w7 ⟨h8, h12, h16, HB.out, HV.out, HM.out, hgc, z16, n16⟩
             ·go_simp
              obtain ⟨X16, W12, eX16, fX16, h16, hb16⟩ := any_box _ (.cells #[.int .i64 0, .int .i64 0, .slice none 0 0] 103); rw [fX16, eX16]; clear fX16; have z16 : w.heap.size ≤ X16 := by have := hgc.size; omega
              have n16 : X16 ≠ X8 ∧ X16 ≠ X12 := by have := lt_of_heap h8; have := lt_of_heap h12; omega
              clear eX16; try replace h8 := keep_heap h8 hb16
              try replace h11 := keep_heap h11 hb16
              try replace h12 := keep_heap h12 hb16
              try replace h14 := keep_heap h14 hb16
              try replace h15 := keep_heap h15 hb16
              try replace h16 := keep_heap h16 hb16
              try replace hG := keep_heap hG hb16
              try replace HS := Lib.hid (HS.out.below hb16)
              try replace HV := Lib.hid (HV.out.below hb16)
              try replace HB := Lib.hid (HB.out.below hb16)
              replace HM := Lib.hid (HM.out.below hb16); replace hgc := gb_trans hgc (gb_below hb16 _); replace hC := s13_cells h15 h14; go_wp2_with fail
              refine hK.out _ _ (fun _ => ?_) ?_
              ·(exact hC)
              clear hK K; try simp only [Act.put, sEt, sE0, sE1]
              refine readyC (rs := [14]) (by kernel_rfl) (by simp) (each_cons (runC o65_13_14 (by rfl) (fun K hK => ?_)) each_nil)
              refine wp_append_full _ (Operand.tmp 92) (Operand.tmp 94) rfl G _ _ _ _ rfl rfl hG HS.out hlr ?_; intro v7 W77 hV hb7; obtain ⟨va, vl, vc, rfl⟩ := strs_shapeN hV; have HV := Lib.hid (hV.mono zG); clear hV; try replace h8 := keep_heap h8 hb7
              try replace h11 := keep_heap h11 hb7
              try replace h12 := keep_heap h12 hb7
              try replace h14 := keep_heap h14 hb7
              try replace h15 := keep_heap h15 hb7
              try replace h16 := keep_heap h16 hb7
              try replace hG := keep_heap hG hb7
              try replace HS := Lib.hid (HS.out.below hb7)
              try replace HB := Lib.hid (HB.out.below hb7)
              replace HM := Lib.hid (HM.out.below hb7); replace hgc := gb_trans hgc (gb_below hb7 _); replace hC := s13_cells h15 h14; refine hK.out _ _ (fun _ => ?_) ?_
              ·(exact hC)
              clear hK K; try simp only [Act.put, sEt, sE0, sE1]
              refine takeC 15 96 (v := ?_) o65_13_15 rfl (by kernel_rfl) (by kernel_rfl) (by kernel_rfl) (by rfl) (fun _ _ _ h => h) (by rfl) ?y15_14 ?_
              case y15_14 => intro w; go_simp; try with_reducible rfl
              simp only [sE0, sE1]; refine sameC (l' := (bQ 18 131071)) (by kernel_rfl) ?_
              first | exact tail va vl vc X16 G W77 ⟨h8, h12, h16, HB.out, HV.out, HM.out, hgc, z16, n16⟩ | exact tail va vl vc X16 G W4 ⟨h8, h12, h16, HB.out, HV.out, HM.out, hgc, z16, n16⟩ | exact tail va vl vc X16 G W12 ⟨h8, h12, h16, HB.out, HV.out, HM.out, hgc, z16, n16⟩ | exact tail va vl vc X16 G w7 ⟨h8, h12, h16, HB.out, HV.out, HM.out, hgc, z16, n16⟩
            ·go_simp
             obtain ⟨X16, W12, eX16, fX16, h16, hb16⟩ := any_box _ (.cells #[.int .i64 0, .int .i64 0, .slice none 0 0] 103); rw [fX16, eX16]; clear fX16; have z16 : w.heap.size ≤ X16 := by have := hgc.size; omega
             have n16 : X16 ≠ X8 ∧ X16 ≠ X12 := by have := lt_of_heap h8; have := lt_of_heap h12; omega
             clear eX16; try replace h8 := keep_heap h8 hb16
             try replace h11 := keep_heap h11 hb16
             try replace h12 := keep_heap h12 hb16
             try replace h14 := keep_heap h14 hb16
             try replace h15 := keep_heap h15 hb16
             try replace h16 := keep_heap h16 hb16
             try replace hG := keep_heap hG hb16
             try replace HS := Lib.hid (HS.out.below hb16)
             try replace HV := Lib.hid (HV.out.below hb16)
             try replace HB := Lib.hid (HB.out.below hb16)
             replace HM := Lib.hid (HM.out.below hb16); replace hgc := gb_trans hgc (gb_below hb16 _); replace hC := s13_cells h15 h14; go_wp2_with fail
             refine hK.out _ _ (fun _ => ?_) ?_
             ·(exact hC)
             clear hK K; try simp only [Act.put, sEt, sE0, sE1]
             refine readyC (rs := [11]) (by kernel_rfl) (by simp) (each_cons (runC o65_13_11 (by rfl) (fun K hK => ?_)) each_nil)
             go_simp; obtain ⟨G, W4, eG, fG, hG, hbG⟩ := any_box _ (.cells #[.string c.who] 9); rw [fG, eG]; clear fG; have zG : B + 1 ≤ G := by have := HM.out.lt; omega
             clear eG; try replace h8 := keep_heap h8 hbG
             try replace h11 := keep_heap h11 hbG
             try replace h12 := keep_heap h12 hbG
             try replace h14 := keep_heap h14 hbG
             try replace h15 := keep_heap h15 hbG
             try replace h16 := keep_heap h16 hbG
             try replace hG := keep_heap hG hbG
             try replace HS := Lib.hid (HS.out.below hbG)
             try replace HV := Lib.hid (HV.out.below hbG)
             try replace HB := Lib.hid (HB.out.below hbG)
             replace HM := Lib.hid (HM.out.below hbG); replace hgc := gb_trans hgc (gb_below hbG _); replace hC := s13_cells h15 h14; go_wp2_with fail
             refine hK.out _ _ (fun _ => ?_) ?_
             ·(exact hC)
             clear hK K; try simp only [Act.put, sEt, sE0, sE1]
             refine readyC (rs := [14]) (by kernel_rfl) (by simp) (each_cons (runC o65_13_14 (by rfl) (fun K hK => ?_)) each_nil)
             refine wp_append_full _ (Operand.tmp 92) (Operand.tmp 94) rfl G _ _ _ _ rfl rfl hG HS.out hlr ?_; intro v7 W77 hV hb7; obtain ⟨va, vl, vc, rfl⟩ := strs_shapeN hV; have HV := Lib.hid (hV.mono zG); clear hV; try replace h8 := keep_heap h8 hb7
             try replace h11 := keep_heap h11 hb7
             try replace h12 := keep_heap h12 hb7
             try replace h14 := keep_heap h14 hb7
             try replace h15 := keep_heap h15 hb7
             try replace h16 := keep_heap h16 hb7
             try replace hG := keep_heap hG hb7
             try replace HS := Lib.hid (HS.out.below hb7)
             try replace HB := Lib.hid (HB.out.below hb7)
             replace HM := Lib.hid (HM.out.below hb7); replace hgc := gb_trans hgc (gb_below hb7 _); replace hC := s13_cells h15 h14; refine hK.out _ _ (fun _ => ?_) ?_
             ·(exact hC)
             clear hK K; try simp only [Act.put, sEt, sE0, sE1]
             refine takeC 15 96 (v := ?_) o65_13_15 rfl (by kernel_rfl) (by kernel_rfl) (by kernel_rfl) (by rfl) (fun _ _ _ h => h) (by rfl) ?y15_15 ?_
             case y15_15 => intro w; go_simp; try with_reducible rfl
             simp only [sE0, sE1]; refine sameC (l' := (bQ 18 131071)) (by kernel_rfl) ?_
             first | exact tail va vl vc X16 G W77 ⟨h8, h12, h16, HB.out, HV.out, HM.out, hgc, z16, n16⟩ | exact tail va vl vc X16 G W4 ⟨h8, h12, h16, HB.out, HV.out, HM.out, hgc, z16, n16⟩ | exact tail va vl vc X16 G W12 ⟨h8, h12, h16, HB.out, HV.out, HM.out, hgc, z16, n16⟩ | exact tail va vl vc X16 G w7 ⟨h8, h12, h16, HB.out, HV.out, HM.out, hgc, z16, n16⟩
           ·go_simp
            obtain ⟨G, W4, eG, fG, hG, hbG⟩ := any_box _ (.cells #[.string c.who] 9); rw [fG, eG]; clear fG; have zG : B + 1 ≤ G := by have := HM.out.lt; omega
            clear eG; try replace h8 := keep_heap h8 hbG
            try replace h11 := keep_heap h11 hbG
            try replace h12 := keep_heap h12 hbG
            try replace h14 := keep_heap h14 hbG
            try replace h15 := keep_heap h15 hbG
            try replace h16 := keep_heap h16 hbG
            try replace hG := keep_heap hG hbG
            try replace HS := Lib.hid (HS.out.below hbG)
            try replace HV := Lib.hid (HV.out.below hbG)
            try replace HB := Lib.hid (HB.out.below hbG)
            replace HM := Lib.hid (HM.out.below hbG); replace hgc := gb_trans hgc (gb_below hbG _); replace hC := s13_cells h15 h14; go_wp2_with fail
            refine hK.out _ _ (fun _ => ?_) ?_
            ·(exact hC)
            clear hK K; try simp only [Act.put, sEt, sE0, sE1]
            refine readyC (rs := [4, 16]) (by kernel_rfl) (by simp) (each_cons (runC o65_13_4 (by rfl) (fun K hK => ?_)) (each_cons (runC o65_13_16 (by rfl) (fun K hK => ?_)) each_nil))
            ·go_simp
             refine (C13.out _).mono ?_; rintro e w7 ⟨rfl, hb7'⟩; try replace h8 := keep_heap h8 hb7'
             try replace h11 := keep_heap h11 hb7'
             try replace h12 := keep_heap h12 hb7'
             try replace h14 := keep_heap h14 hb7'
             try replace h15 := keep_heap h15 hb7'
             try replace h16 := keep_heap h16 hb7'
             try replace hG := keep_heap hG hb7'
             try replace HS := Lib.hid (HS.out.below hb7')
             try replace HV := Lib.hid (HV.out.below hb7')
             try replace HB := Lib.hid (HB.out.below hb7')
             replace HM := Lib.hid (HM.out.below hb7'); replace hgc := gb_trans hgc (gb_below hb7' _); replace hC := s13_cells h15 h14; go_wp2_with fail
             refine hK.out _ _ (fun _ => ?_) ?_
             ·(exact hC)
             clear hK K; try simp only [Act.put, sEt, sE0, sE1]
             refine loadC 5 86 (v := .int .i64 (rr.sum + pp)) o65_13_5 rfl (by kernel_rfl) (by kernel_rfl) (by kernel_rfl) (by kernel_rfl) (fun _ _ _ h => h) (by rfl) ?y5_16 (by exact hC) ?_
             case y5_16 =>
              intro w hSw; try dsimp only at hSw
              go_simp; exact Hw1.out
             simp only [sE0, sE1]; refine readyC (rs := [14, 16]) (by kernel_rfl) (by simp) (each_cons (runC o65_13_14 (by rfl) (fun K hK => ?_)) (each_cons (runC o65_13_16 (by rfl) (fun K hK => ?_)) each_nil))
             ·refine wp_append_full _ (Operand.tmp 92) (Operand.tmp 94) rfl G _ _ _ _ rfl rfl hG HS.out hlr ?_
              intro v7 W77 hV hb7; obtain ⟨va, vl, vc, rfl⟩ := strs_shapeN hV; have HV := Lib.hid (hV.mono zG); clear hV; try replace h8 := keep_heap h8 hb7
              try replace h11 := keep_heap h11 hb7
              try replace h12 := keep_heap h12 hb7
              try replace h14 := keep_heap h14 hb7
              try replace h15 := keep_heap h15 hb7
              try replace h16 := keep_heap h16 hb7
              try replace hG := keep_heap hG hb7
              try replace HS := Lib.hid (HS.out.below hb7)
              try replace HB := Lib.hid (HB.out.below hb7)
              replace HM := Lib.hid (HM.out.below hb7); replace hgc := gb_trans hgc (gb_below hb7 _); replace hC := s13_cells h15 h14; refine hK.out _ _ (fun _ => ?_) ?_
              ·(exact hC)
              clear hK K; try simp only [Act.put, sEt, sE0, sE1]
              refine takeC 15 96 (v := ?_) o65_13_15 rfl (by kernel_rfl) (by kernel_rfl) (by kernel_rfl) (by rfl) (fun _ _ _ h => h) (by rfl) ?y15_17 ?_
              case y15_17 => intro w; go_simp; try with_reducible rfl
              simp only [sE0, sE1]; refine readyC (rs := [16]) (by kernel_rfl) (by simp) (each_cons (runC o65_13_16 (by rfl) (fun K hK => ?_)) each_nil)
              go_simp; obtain ⟨X16, W12, eX16, fX16, h16, hb16⟩ := any_box _ (.cells #[.int .i64 0, .int .i64 0, .slice none 0 0] 103); rw [fX16, eX16]; clear fX16; have z16 : w.heap.size ≤ X16 := by have := hgc.size; omega
              have n16 : X16 ≠ X8 ∧ X16 ≠ X12 := by have := lt_of_heap h8; have := lt_of_heap h12; omega
              clear eX16; try replace h8 := keep_heap h8 hb16
              try replace h11 := keep_heap h11 hb16
              try replace h12 := keep_heap h12 hb16
              try replace h14 := keep_heap h14 hb16
              try replace h15 := keep_heap h15 hb16
              try replace h16 := keep_heap h16 hb16
              try replace hG := keep_heap hG hb16
              try replace HS := Lib.hid (HS.out.below hb16)
              try replace HV := Lib.hid (HV.out.below hb16)
              try replace HB := Lib.hid (HB.out.below hb16)
              replace HM := Lib.hid (HM.out.below hb16); replace hgc := gb_trans hgc (gb_below hb16 _); replace hC := s13_cells h15 h14; go_wp2_with fail
              refine hK.out _ _ (fun _ => ?_) ?_
              ·(exact hC)
              clear hK K; try simp only [Act.put, sEt, sE0, sE1]
              refine sameC (l' := (bQ 18 131071)) (by kernel_rfl) ?_
              first | exact tail va vl vc X16 G W77 ⟨h8, h12, h16, HB.out, HV.out, HM.out, hgc, z16, n16⟩ | exact tail va vl vc X16 G W4 ⟨h8, h12, h16, HB.out, HV.out, HM.out, hgc, z16, n16⟩ | exact tail va vl vc X16 G W12 ⟨h8, h12, h16, HB.out, HV.out, HM.out, hgc, z16, n16⟩ | exact tail va vl vc X16 G w7 ⟨h8, h12, h16, HB.out, HV.out, HM.out, hgc, z16, n16⟩
             ·go_simp
              obtain ⟨X16, W12, eX16, fX16, h16, hb16⟩ := any_box _ (.cells #[.int .i64 0, .int .i64 0, .slice none 0 0] 103); rw [fX16, eX16]; clear fX16; have z16 : w.heap.size ≤ X16 := by have := hgc.size; omega
              have n16 : X16 ≠ X8 ∧ X16 ≠ X12 := by have := lt_of_heap h8; have := lt_of_heap h12; omega
              clear eX16; try replace h8 := keep_heap h8 hb16
              try replace h11 := keep_heap h11 hb16
              try replace h12 := keep_heap h12 hb16
              try replace h14 := keep_heap h14 hb16
              try replace h15 := keep_heap h15 hb16
              try replace h16 := keep_heap h16 hb16
              try replace hG := keep_heap hG hb16
              try replace HS := Lib.hid (HS.out.below hb16)
              try replace HV := Lib.hid (HV.out.below hb16)
              try replace HB := Lib.hid (HB.out.below hb16)
              replace HM := Lib.hid (HM.out.below hb16); replace hgc := gb_trans hgc (gb_below hb16 _); replace hC := s13_cells h15 h14; go_wp2_with fail
              refine hK.out _ _ (fun _ => ?_) ?_
              ·(exact hC)
              clear hK K; try simp only [Act.put, sEt, sE0, sE1]
              refine readyC (rs := [14]) (by kernel_rfl) (by simp) (each_cons (runC o65_13_14 (by rfl) (fun K hK => ?_)) each_nil)
              refine wp_append_full _ (Operand.tmp 92) (Operand.tmp 94) rfl G _ _ _ _ rfl rfl hG HS.out hlr ?_; intro v7 W77 hV hb7; obtain ⟨va, vl, vc, rfl⟩ := strs_shapeN hV; have HV := Lib.hid (hV.mono zG); clear hV; try replace h8 := keep_heap h8 hb7
              try replace h11 := keep_heap h11 hb7
              try replace h12 := keep_heap h12 hb7
              try replace h14 := keep_heap h14 hb7
              try replace h15 := keep_heap h15 hb7
              try replace h16 := keep_heap h16 hb7
              try replace hG := keep_heap hG hb7
              try replace HS := Lib.hid (HS.out.below hb7)
              try replace HB := Lib.hid (HB.out.below hb7)
              replace HM := Lib.hid (HM.out.below hb7); replace hgc := gb_trans hgc (gb_below hb7 _); replace hC := s13_cells h15 h14; refine hK.out _ _ (fun _ => ?_) ?_
              ·(exact hC)
              clear hK K; try simp only [Act.put, sEt, sE0, sE1]
              refine takeC 15 96 (v := ?_) o65_13_15 rfl (by kernel_rfl) (by kernel_rfl) (by kernel_rfl) (by rfl) (fun _ _ _ h => h) (by rfl) ?y15_18 ?_
              case y15_18 => intro w; go_simp; try with_reducible rfl
              simp only [sE0, sE1]; refine sameC (l' := (bQ 18 131071)) (by kernel_rfl) ?_
              first | exact tail va vl vc X16 G W77 ⟨h8, h12, h16, HB.out, HV.out, HM.out, hgc, z16, n16⟩ | exact tail va vl vc X16 G W4 ⟨h8, h12, h16, HB.out, HV.out, HM.out, hgc, z16, n16⟩ | exact tail va vl vc X16 G W12 ⟨h8, h12, h16, HB.out, HV.out, HM.out, hgc, z16, n16⟩ | exact tail va vl vc X16 G w7 ⟨h8, h12, h16, HB.out, HV.out, HM.out, hgc, z16, n16⟩
            ·go_simp
             obtain ⟨X16, W12, eX16, fX16, h16, hb16⟩ := any_box _ (.cells #[.int .i64 0, .int .i64 0, .slice none 0 0] 103); rw [fX16, eX16]; clear fX16; have z16 : w.heap.size ≤ X16 := by have := hgc.size; omega
             have n16 : X16 ≠ X8 ∧ X16 ≠ X12 := by have := lt_of_heap h8; have := lt_of_heap h12; omega
             clear eX16; try replace h8 := keep_heap h8 hb16
             try replace h11 := keep_heap h11 hb16
             try replace h12 := keep_heap h12 hb16
             try replace h14 := keep_heap h14 hb16
             try replace h15 := keep_heap h15 hb16
             try replace h16 := keep_heap h16 hb16
             try replace hG := keep_heap hG hb16
             try replace HS := Lib.hid (HS.out.below hb16)
             try replace HV := Lib.hid (HV.out.below hb16)
             try replace HB := Lib.hid (HB.out.below hb16)
             replace HM := Lib.hid (HM.out.below hb16); replace hgc := gb_trans hgc (gb_below hb16 _); replace hC := s13_cells h15 h14; go_wp2_with fail
             refine hK.out _ _ (fun _ => ?_) ?_
             ·(exact hC)
             clear hK K; try simp only [Act.put, sEt, sE0, sE1]
             refine readyC (rs := [4]) (by kernel_rfl) (by simp) (each_cons (runC o65_13_4 (by rfl) (fun K hK => ?_)) each_nil)
             go_simp; refine (C13.out _).mono ?_; rintro e w7 ⟨rfl, hb7'⟩; try replace h8 := keep_heap h8 hb7'
             try replace h11 := keep_heap h11 hb7'
             try replace h12 := keep_heap h12 hb7'
             try replace h14 := keep_heap h14 hb7'
             try replace h15 := keep_heap h15 hb7'
             try replace h16 := keep_heap h16 hb7'
             try replace hG := keep_heap hG hb7'
             try replace HS := Lib.hid (HS.out.below hb7')
             try replace HV := Lib.hid (HV.out.below hb7')
             try replace HB := Lib.hid (HB.out.below hb7')
             replace HM := Lib.hid (HM.out.below hb7'); replace hgc := gb_trans hgc (gb_below hb7' _); replace hC := s13_cells h15 h14; go_wp2_with fail
             refine hK.out _ _ (fun _ => ?_) ?_
             ·(exact hC)
             clear hK K; try simp only [Act.put, sEt, sE0, sE1]
             refine loadC 5 86 (v := .int .i64 (rr.sum + pp)) o65_13_5 rfl (by kernel_rfl) (by kernel_rfl) (by kernel_rfl) (by kernel_rfl) (fun _ _ _ h => h) (by rfl) ?y5_19 (by exact hC) ?_
             case y5_19 =>
              intro w hSw; try dsimp only at hSw
              go_simp; exact Hw1.out
             simp only [sE0, sE1]; refine readyC (rs := [14]) (by kernel_rfl) (by simp) (each_cons (runC o65_13_14 (by rfl) (fun K hK => ?_)) each_nil)
             refine wp_append_full _ (Operand.tmp 92) (Operand.tmp 94) rfl G _ _ _ _ rfl rfl hG HS.out hlr ?_; intro v7 W77 hV hb7; obtain ⟨va, vl, vc, rfl⟩ := strs_shapeN hV; have HV := Lib.hid (hV.mono zG); clear hV; try replace h8 := keep_heap h8 hb7
             try replace h11 := keep_heap h11 hb7
             try replace h12 := keep_heap h12 hb7
             try replace h14 := keep_heap h14 hb7
             try replace h15 := keep_heap h15 hb7
             try replace h16 := keep_heap h16 hb7
             try replace hG := keep_heap hG hb7
             try replace HS := Lib.hid (HS.out.below hb7)
             try replace HB := Lib.hid (HB.out.below hb7)
             replace HM := Lib.hid (HM.out.below hb7); replace hgc := gb_trans hgc (gb_below hb7 _); replace hC := s13_cells h15 h14; refine hK.out _ _ (fun _ => ?_) ?_
             ·(exact hC)
             clear hK K; try simp only [Act.put, sEt, sE0, sE1]
             refine takeC 15 96 (v := ?_) o65_13_15 rfl (by kernel_rfl) (by kernel_rfl) (by kernel_rfl) (by rfl) (fun _ _ _ h => h) (by rfl) ?y15_20 ?_
             case y15_20 => intro w; go_simp; try with_reducible rfl
             simp only [sE0, sE1]; refine sameC (l' := (bQ 18 131071)) (by kernel_rfl) ?_
             first | exact tail va vl vc X16 G W77 ⟨h8, h12, h16, HB.out, HV.out, HM.out, hgc, z16, n16⟩ | exact tail va vl vc X16 G W4 ⟨h8, h12, h16, HB.out, HV.out, HM.out, hgc, z16, n16⟩ | exact tail va vl vc X16 G W12 ⟨h8, h12, h16, HB.out, HV.out, HM.out, hgc, z16, n16⟩ | exact tail va vl vc X16 G w7 ⟨h8, h12, h16, HB.out, HV.out, HM.out, hgc, z16, n16⟩
           ·go_simp
            obtain ⟨X16, W12, eX16, fX16, h16, hb16⟩ := any_box _ (.cells #[.int .i64 0, .int .i64 0, .slice none 0 0] 103); rw [fX16, eX16]; clear fX16; have z16 : w.heap.size ≤ X16 := by have := hgc.size; omega
            have n16 : X16 ≠ X8 ∧ X16 ≠ X12 := by have := lt_of_heap h8; have := lt_of_heap h12; omega
            clear eX16; try replace h8 := keep_heap h8 hb16
            try replace h11 := keep_heap h11 hb16
            try replace h12 := keep_heap h12 hb16
            try replace h14 := keep_heap h14 hb16
            try replace h15 := keep_heap h15 hb16
            try replace h16 := keep_heap h16 hb16
            try replace hG := keep_heap hG hb16
            try replace HS := Lib.hid (HS.out.below hb16)
            try replace HV := Lib.hid (HV.out.below hb16)
            try replace HB := Lib.hid (HB.out.below hb16)
            replace HM := Lib.hid (HM.out.below hb16); replace hgc := gb_trans hgc (gb_below hb16 _); replace hC := s13_cells h15 h14; go_wp2_with fail
            refine hK.out _ _ (fun _ => ?_) ?_
            ·(exact hC)
            clear hK K; try simp only [Act.put, sEt, sE0, sE1]
            refine readyC (rs := [4, 11]) (by kernel_rfl) (by simp) (each_cons (runC o65_13_4 (by rfl) (fun K hK => ?_)) (each_cons (runC o65_13_11 (by rfl) (fun K hK => ?_)) each_nil))
            ·go_simp
             refine (C13.out _).mono ?_; rintro e w7 ⟨rfl, hb7'⟩; try replace h8 := keep_heap h8 hb7'
             try replace h11 := keep_heap h11 hb7'
             try replace h12 := keep_heap h12 hb7'
             try replace h14 := keep_heap h14 hb7'
             try replace h15 := keep_heap h15 hb7'
             try replace h16 := keep_heap h16 hb7'
             try replace hG := keep_heap hG hb7'
             try replace HS := Lib.hid (HS.out.below hb7')
             try replace HV := Lib.hid (HV.out.below hb7')
             try replace HB := Lib.hid (HB.out.below hb7')
             replace HM := Lib.hid (HM.out.below hb7'); replace hgc := gb_trans hgc (gb_below hb7' _); replace hC := s13_cells h15 h14; go_wp2_with fail
             refine hK.out _ _ (fun _ => ?_) ?_
             ·(exact hC)
             clear hK K; try simp only [Act.put, sEt, sE0, sE1]
             refine loadC 5 86 (v := .int .i64 (rr.sum + pp)) o65_13_5 rfl (by kernel_rfl) (by kernel_rfl) (by kernel_rfl) (by kernel_rfl) (fun _ _ _ h => h) (by rfl) ?y5_21 (by exact hC) ?_
             case y5_21 =>
              intro w hSw; try dsimp only at hSw
              go_simp; exact Hw1.out
             simp only [sE0, sE1]; refine readyC (rs := [11]) (by kernel_rfl) (by simp) (each_cons (runC o65_13_11 (by rfl) (fun K hK => ?_)) each_nil)
             go_simp; obtain ⟨G, W4, eG, fG, hG, hbG⟩ := any_box _ (.cells #[.string c.who] 9); rw [fG, eG]; clear fG; have zG : B + 1 ≤ G := by have := HM.out.lt; omega
             clear eG; try replace h8 := keep_heap h8 hbG
             try replace h11 := keep_heap h11 hbG
             try replace h12 := keep_heap h12 hbG
             try replace h14 := keep_heap h14 hbG
             try replace h15 := keep_heap h15 hbG
             try replace h16 := keep_heap h16 hbG
             try replace hG := keep_heap hG hbG
             try replace HS := Lib.hid (HS.out.below hbG)
             try replace HV := Lib.hid (HV.out.below hbG)
             try replace HB := Lib.hid (HB.out.below hbG)
             replace HM := Lib.hid (HM.out.below hbG); replace hgc := gb_trans hgc (gb_below hbG _); replace hC := s13_cells h15 h14; go_wp2_with fail
             refine hK.out _ _ (fun _ => ?_) ?_
             ·(exact hC)
             clear hK K; try simp only [Act.put, sEt, sE0, sE1]
             refine readyC (rs := [14]) (by kernel_rfl) (by simp) (each_cons (runC o65_13_14 (by rfl) (fun K hK => ?_)) each_nil)
             refine wp_append_full _ (Operand.tmp 92) (Operand.tmp 94) rfl G _ _ _ _ rfl rfl hG HS.out hlr ?_; intro v7 W77 hV hb7; obtain ⟨va, vl, vc, rfl⟩ := strs_shapeN hV; have HV := Lib.hid (hV.mono zG); clear hV; try replace h8 := keep_heap h8 hb7
             try replace h11 := keep_heap h11 hb7
             try replace h12 := keep_heap h12 hb7
             try replace h14 := keep_heap h14 hb7
             try replace h15 := keep_heap h15 hb7
             try replace h16 := keep_heap h16 hb7
             try replace hG := keep_heap hG hb7
             try replace HS := Lib.hid (HS.out.below hb7)
             try replace HB := Lib.hid (HB.out.below hb7)
             replace HM := Lib.hid (HM.out.below hb7); replace hgc := gb_trans hgc (gb_below hb7 _); replace hC := s13_cells h15 h14; refine hK.out _ _ (fun _ => ?_) ?_
             ·(exact hC)
             clear hK K; try simp only [Act.put, sEt, sE0, sE1]
             refine takeC 15 96 (v := ?_) o65_13_15 rfl (by kernel_rfl) (by kernel_rfl) (by kernel_rfl) (by rfl) (fun _ _ _ h => h) (by rfl) ?y15_22 ?_
             case y15_22 => intro w; go_simp; try with_reducible rfl
             simp only [sE0, sE1]; refine sameC (l' := (bQ 18 131071)) (by kernel_rfl) ?_
             first | exact tail va vl vc X16 G W77 ⟨h8, h12, h16, HB.out, HV.out, HM.out, hgc, z16, n16⟩ | exact tail va vl vc X16 G W4 ⟨h8, h12, h16, HB.out, HV.out, HM.out, hgc, z16, n16⟩ | exact tail va vl vc X16 G W12 ⟨h8, h12, h16, HB.out, HV.out, HM.out, hgc, z16, n16⟩ | exact tail va vl vc X16 G w7 ⟨h8, h12, h16, HB.out, HV.out, HM.out, hgc, z16, n16⟩
            ·go_simp
             obtain ⟨G, W4, eG, fG, hG, hbG⟩ := any_box _ (.cells #[.string c.who] 9); rw [fG, eG]; clear fG; have zG : B + 1 ≤ G := by have := HM.out.lt; omega
             clear eG; try replace h8 := keep_heap h8 hbG
             try replace h11 := keep_heap h11 hbG
             try replace h12 := keep_heap h12 hbG
             try replace h14 := keep_heap h14 hbG
             try replace h15 := keep_heap h15 hbG
             try replace h16 := keep_heap h16 hbG
             try replace hG := keep_heap hG hbG
             try replace HS := Lib.hid (HS.out.below hbG)
             try replace HV := Lib.hid (HV.out.below hbG)
             try replace HB := Lib.hid (HB.out.below hbG)
             replace HM := Lib.hid (HM.out.below hbG); replace hgc := gb_trans hgc (gb_below hbG _); replace hC := s13_cells h15 h14; go_wp2_with fail
             refine hK.out _ _ (fun _ => ?_) ?_
             ·(exact hC)
             clear hK K; try simp only [Act.put, sEt, sE0, sE1]
             refine readyC (rs := [4]) (by kernel_rfl) (by simp) (each_cons (runC o65_13_4 (by rfl) (fun K hK => ?_)) each_nil)
             go_simp; refine (C13.out _).mono ?_; rintro e w7 ⟨rfl, hb7'⟩; try replace h8 := keep_heap h8 hb7'
             try replace h11 := keep_heap h11 hb7'
             try replace h12 := keep_heap h12 hb7'
             try replace h14 := keep_heap h14 hb7'
             try replace h15 := keep_heap h15 hb7'
             try replace h16 := keep_heap h16 hb7'
             try replace hG := keep_heap hG hb7'
             try replace HS := Lib.hid (HS.out.below hb7')
             try replace HV := Lib.hid (HV.out.below hb7')
             try replace HB := Lib.hid (HB.out.below hb7')
             replace HM := Lib.hid (HM.out.below hb7'); replace hgc := gb_trans hgc (gb_below hb7' _); replace hC := s13_cells h15 h14; go_wp2_with fail
             refine hK.out _ _ (fun _ => ?_) ?_
             ·(exact hC)
             clear hK K; try simp only [Act.put, sEt, sE0, sE1]
             refine loadC 5 86 (v := .int .i64 (rr.sum + pp)) o65_13_5 rfl (by kernel_rfl) (by kernel_rfl) (by kernel_rfl) (by kernel_rfl) (fun _ _ _ h => h) (by rfl) ?y5_23 (by exact hC) ?_
             case y5_23 =>
              intro w hSw; try dsimp only at hSw
              go_simp; exact Hw1.out
             simp only [sE0, sE1]; refine readyC (rs := [14]) (by kernel_rfl) (by simp) (each_cons (runC o65_13_14 (by rfl) (fun K hK => ?_)) each_nil)
             refine wp_append_full _ (Operand.tmp 92) (Operand.tmp 94) rfl G _ _ _ _ rfl rfl hG HS.out hlr ?_; intro v7 W77 hV hb7; obtain ⟨va, vl, vc, rfl⟩ := strs_shapeN hV; have HV := Lib.hid (hV.mono zG); clear hV; try replace h8 := keep_heap h8 hb7
             try replace h11 := keep_heap h11 hb7
             try replace h12 := keep_heap h12 hb7
             try replace h14 := keep_heap h14 hb7
             try replace h15 := keep_heap h15 hb7
             try replace h16 := keep_heap h16 hb7
             try replace hG := keep_heap hG hb7
             try replace HS := Lib.hid (HS.out.below hb7)
             try replace HB := Lib.hid (HB.out.below hb7)
             replace HM := Lib.hid (HM.out.below hb7); replace hgc := gb_trans hgc (gb_below hb7 _); replace hC := s13_cells h15 h14; refine hK.out _ _ (fun _ => ?_) ?_
             ·(exact hC)
             clear hK K; try simp only [Act.put, sEt, sE0, sE1]
             refine takeC 15 96 (v := ?_) o65_13_15 rfl (by kernel_rfl) (by kernel_rfl) (by kernel_rfl) (by rfl) (fun _ _ _ h => h) (by rfl) ?y15_24 ?_
             case y15_24 => intro w; go_simp; try with_reducible rfl
             simp only [sE0, sE1]; refine sameC (l' := (bQ 18 131071)) (by kernel_rfl) ?_
             first | exact tail va vl vc X16 G W77 ⟨h8, h12, h16, HB.out, HV.out, HM.out, hgc, z16, n16⟩ | exact tail va vl vc X16 G W4 ⟨h8, h12, h16, HB.out, HV.out, HM.out, hgc, z16, n16⟩ | exact tail va vl vc X16 G W12 ⟨h8, h12, h16, HB.out, HV.out, HM.out, hgc, z16, n16⟩ | exact tail va vl vc X16 G w7 ⟨h8, h12, h16, HB.out, HV.out, HM.out, hgc, z16, n16⟩
          ·intro va vl vc X16 G W7 ⟨h8, h12, h16, hB, hV, hM, hgc, z16, n16⟩
           have HB := Lib.hid hB; have HV := Lib.hid hV; have HM := Lib.hid hM; clear hB hV hM; refine readyC (rs := [17]) (by kernel_rfl) (by simp) (each_cons (runC o65_13_17 (by rfl) (fun K hK => ?_)) each_nil)
           obtain ⟨z0, z1, z2⟩ := lu_cells h16; have f0 := free_of h16 0; have f1 := free_of h16 1; have f2 := free_of h16 2; go_simp; obtain ⟨W18, e18, h16n, k18, s18, g18⟩ := set_lu h16 (.int .i64 (rr.sum + pp)) (.int .i64 ((rr.many : Int) + 1)) (.slice va vl vc); rw [e18]; replace h8 := k18 _ _ h8 (by omega)
           replace h12 := k18 _ _ h12 (by omega)
           replace HB := Lib.hid (s18 _ _ _ HB.out); replace HV := Lib.hid (s18 _ _ _ HV.out); replace HM := Lib.hid (HM.out.step g18 (by intro e; cases e; omega) s18)
           replace hgc := gb_then hgc g18 (fun r hr => by cases hr; exact z16)
           replace h16 := h16n; clear e18 k18 s18 g18 h16n z0 z1 z2 f0 f1 f2; refine hK.out _ _ (fun h => absurd h (by decide)) ?_
           clear hK K; try simp only [sEt, sE0, sE1]
           refine doneC (by kernel_rfl) ?_ _
           have HY := Lib.hid (show LuOk cs (d + 1) (candK (wAt cs) rr k) from Hrr.out.cand Hfw.out hlt)
           have hVy : Strs W18 (B + 1) (.slice va vl vc) (luD cs (candK (wAt cs) rr k)).who := by
            show Strs W18 (B + 1) _ (nameOf cs (k + 1) :: List.map (nameOf cs) rr.who)
            rw [hky]; exact HV.out
           have hbl := bet_lu Hsort.out Hkey.out HY.out HOk.out
           have CB := Lib.hid (show Calls Tryz.prog 66 #[.agg #[.int .i64 (rr.sum + pp), .int .i64 ((rr.many : Int) + 1), .slice va vl vc], .agg #[.int .i64 b.sum, .int .i64 (b.many : Int), .slice ba bl bc]] W18 (BoolIs (better (candK (wAt cs) rr k) b) W18) from by
            have h := better_calls (B + 1) (B + 1) (.slice va vl vc) (.slice ba bl bc) (luD cs (candK (wAt cs) rr k)) (luD cs b) W18 hVy HB.out; rw [hbl] at h
            rw [← hwk]; exact h)
           have Hn6 := Lib.hid (show n6 ≤ n + (k + 1 + 1) * 8 ^ d by
            have h1 := Hn'.out; have h3 : (k + 1 + 1) * 8 ^ d = (k + 1) * 8 ^ d + 8 ^ d := by rw [Nat.succ_mul]
            omega)
           obtain ⟨z0, z1, z2⟩ := lu_cells h16; obtain ⟨v0, v1, v2⟩ := lu_cells h12; clear hbl hVy hn6; go_wp2_with fail
           refine CB.out.mono ?_; rintro e w9 ⟨rfl, hb9⟩; replace h8 := keep_heap h8 hb9; replace h12 := keep_heap h12 hb9; replace h16 := keep_heap h16 hb9; replace HB := Lib.hid (HB.out.below hb9); replace HV := Lib.hid (HV.out.below hb9); replace HM := Lib.hid (HM.out.below hb9); replace hgc := gb_trans hgc (gb_below hb9 (some B)); clear z0 z1 z2 v0 v1 v2 CB hb9; cases hbt : better (candK (wAt cs) rr k) b
           ·have HRn := Lib.hid (show R = (List.range' (k + 1) (cs.length - (k + 1))).foldl (luF cs ss i u) b by have := HRd.out; rwa [hbt, if_neg (by simp)] at this)
            clear hbt HRd; go_wp2_with fail
            go_roundw
            case rel => exact ⟨k + 1, n6, b, ba, bl, bc, by omega, by go_num, HRn, HOk, h12, HB, HM, Hn6, h8, hgc⟩
            case measure => simp [intOf]; omega
           ·have HRn := Lib.hid (show R = (List.range' (k + 1) (cs.length - (k + 1))).foldl (luF cs ss i u) (candK (wAt cs) rr k) by have := HRd.out; rwa [hbt, if_pos rfl] at this)
            obtain ⟨z0, z1, z2⟩ := lu_cells h16; obtain ⟨v0, v1, v2⟩ := lu_cells h12; have f0 := free_of h12 0; have f1 := free_of h12 1; have f2 := free_of h12 2; clear hbt HRd; go_upto_region 16 with fail
            obtain ⟨V, eV, h12n, kV, sV, gV⟩ := set_lu h12 (.int .i64 (rr.sum + pp)) (.int .i64 ((rr.many : Int) + 1)) (.slice va vl vc); rw [eV]; replace h8 := kV _ _ h8 (by omega)
            replace HV := Lib.hid (sV _ _ _ HV.out); replace HM := Lib.hid (HM.out.step gV (by intro e; cases e; omega) sV)
            replace hgc := gb_then hgc gV (fun r hr => by cases hr; exact z12)
            have H12 := Lib.hid (show V.heap[X12]? = some (.cells #[.int .i64 (candK (wAt cs) rr k).sum, .int .i64 ((candK (wAt cs) rr k).many : Int), .slice va vl vc] 103 (0, 0)) by
             rw [← hwk] at h12n
             exact h12n)
            have HV2 := Lib.hid (show Strs V (B + 1) (.slice va vl vc) (List.map (nameOf cs) (candK (wAt cs) rr k).who) by
             show Strs V (B + 1) _ (nameOf cs (k + 1) :: List.map (nameOf cs) rr.who)
             rw [hky]; exact HV.out)
            clear eV kV sV gV h12n h12 z0 z1 z2 v0 v1 v2 f0 f1 f2 HV HB; go_wp2_with fail
            go_roundw
            case rel => exact ⟨k + 1, n6, candK (wAt cs) rr k, va, vl, vc, by omega, by go_num, HRn, HY, H12.out, HV2, HM, Hn6, h8, hgc⟩
            case measure => simp [intOf]; omega
      ·have hai : ((an : Int) == 1) = true := by have := Hbt.out.2 hu'; simp; omega
       have HRn := Lib.hid (show R = (List.range' (k + 1) (cs.length - (k + 1))).foldl (luF cs ss i u) b by
        have := fold_cons hlt HR.out
        rwa [luF_no (by unfold okK; rw [hu']; rfl)] at this)
       clear hu' Hbt; show Code.wp _ (Code.region 11 o65_11 true) _ _ _
       refine region_start 20 (fun w' => True) (by kernel_rfl) rfl ?_ (fun hHeld => ?_)
       ·(trivial)
       refine take_to 0 53 (bQ 20 1) (v := ?_) o65_11_0 rfl o65_11_ns (by kernel_rfl) (by kernel_rfl) (fun _ _ _ h => h) (by rfl) ?y0a (by assumption) ?_
       case y0a => intro w h; (try dsimp only at h); go_simp; try with_reducible rfl
       simp only [sE0, sE1]; refine take_to 1 54 (bQ 20 3) (v := ?_) o65_11_1 rfl o65_11_ns (by kernel_rfl) (by kernel_rfl) (fun _ _ _ h => h) (by rfl) ?y1a (by assumption) ?_
       case y1a => intro w h; (try dsimp only at h); go_simp; try with_reducible rfl
       simp only [sE0, sE1]; refine take_to 2 55 (bQ 20 7) (v := .int .i64 (sh : Int)) o65_11_2 rfl o65_11_ns (by kernel_rfl) (by kernel_rfl) (fun _ _ _ h => h) (by rfl) ?y2a (by assumption) ?_
       case y2a =>
        intro w hSw; try dsimp only at hSw
        go_simp; exact Hsh.out
       simp only [sE0, sE1]; refine take_to 3 56 (bQ 20 15) (v := .int .i64 (an : Int)) o65_11_3 rfl o65_11_ns (by kernel_rfl) (by kernel_rfl) (fun _ _ _ h => h) (by rfl) ?y3a (by assumption) ?_
       case y3a =>
        intro w hSw; try dsimp only at hSw
        go_simp; exact Han.out
       simp only [sE0, sE1]; refine take_to 4 57 (bQ 20 31) (v := .bool true) o65_11_4 rfl o65_11_ns (by kernel_rfl) (by kernel_rfl) (fun _ _ _ h => h) (by rfl) ?y4a (by assumption) ?_
       case y4a =>
        intro w hSw; try dsimp only at hSw
        go_simp
       simp only [sE0, sE1]; refine take_to 5 58 (bQ 20 63) (v := ?_) o65_11_5 rfl o65_11_ns (by kernel_rfl) (by kernel_rfl) (fun _ _ _ h => h) (by rfl) ?y5a (by assumption) ?_
       case y5a => intro w h; (try dsimp only at h); go_simp; try with_reducible rfl
       simp only [sE0, sE1]; refine skip_to 6 59 (bQ 20 127) o65_11_6 rfl o65_11_ns (by kernel_rfl) (by kernel_rfl) (fun _ _ _ h => h) (by rfl) (by assumption) ?_
       simp only [sE0, sE1]; refine skip_to 7 60 (bQ 20 255) o65_11_7 rfl o65_11_ns (by kernel_rfl) (by kernel_rfl) (fun _ _ _ h => h) (by rfl) (by assumption) ?_
       simp only [sE0, sE1]; refine skip_to 8 61 (bQ 20 511) o65_11_8 rfl o65_11_ns (by kernel_rfl) (by kernel_rfl) (fun _ _ _ h => h) (by rfl) (by assumption) ?_
       simp only [sE0, sE1]; refine skip_to 9 62 (bQ 20 1023) o65_11_9 rfl o65_11_ns (by kernel_rfl) (by kernel_rfl) (fun _ _ _ h => h) (by rfl) (by assumption) ?_
       simp only [sE0, sE1]; refine skip_to 10 63 (bQ 20 2047) o65_11_10 rfl o65_11_ns (by kernel_rfl) (by kernel_rfl) (fun _ _ _ h => h) (by rfl) (by assumption) ?_
       simp only [sE0, sE1]; refine skip_to 11 64 (bQ 20 4095) o65_11_11 rfl o65_11_ns (by kernel_rfl) (by kernel_rfl) (fun _ _ _ h => h) (by rfl) (by assumption) ?_
       simp only [sE0, sE1]; refine skip_to 12 65 (bQ 20 8191) o65_11_12 rfl o65_11_ns (by kernel_rfl) (by kernel_rfl) (fun _ _ _ h => h) (by rfl) (by assumption) ?_
       simp only [sE0, sE1]; refine take_to 13 66 (bQ 20 16383) (v := ?_) o65_11_13 rfl o65_11_ns (by kernel_rfl) (by kernel_rfl) (fun _ _ _ h => h) (by rfl) ?y13a (by assumption) ?_
       case y13a => intro w h; (try dsimp only at h); go_simp; try with_reducible rfl
       simp only [sE0, sE1]; refine take_to 14 67 (bQ 20 32767) (v := ?_) o65_11_14 rfl o65_11_ns (by kernel_rfl) (by kernel_rfl) (fun _ _ _ h => h) (by rfl) ?y14a (by assumption) ?_
       case y14a => intro w h; (try dsimp only at h); go_simp; try with_reducible rfl
       simp only [sE0, sE1]; refine skip_to 15 68 (bQ 20 65535) o65_11_15 rfl o65_11_ns (by kernel_rfl) (by kernel_rfl) (fun _ _ _ h => h) (by rfl) (by assumption) ?_
       simp only [sE0, sE1]; refine skip_to 16 69 (bQ 20 131071) o65_11_16 rfl o65_11_ns (by kernel_rfl) (by kernel_rfl) (fun _ _ _ h => h) (by rfl) (by assumption) ?_
       simp only [sE0, sE1]; refine skip_to 17 70 (bQ 20 262143) o65_11_17 rfl o65_11_ns (by kernel_rfl) (by kernel_rfl) (fun _ _ _ h => h) (by rfl) (by assumption) ?_
       simp only [sE0, sE1]; refine skip_to 18 71 (bQ 20 524287) o65_11_18 rfl o65_11_ns (by kernel_rfl) (by kernel_rfl) (fun _ _ _ h => h) (by rfl) (by assumption) ?_
       simp only [sE0, sE1]; refine take_to 19 72 (bQ 20 1048575) (v := ?_) o65_11_19 rfl o65_11_ns (by kernel_rfl) (by kernel_rfl) (fun _ _ _ h => h) (by rfl) ?y19a (by assumption) ?_
       case y19a => intro w h; (try dsimp only at h); go_simp; try with_reducible rfl
       simp only [sE0, sE1]; refine wpAnyH_done (by kernel_rfl) ?_ _
       clear hai; go_wp2_with fail
       go_roundw
       case rel => exact ⟨k + 1, n', b, ba, bl, bc, by omega, by go_num, HRn, HOk, h12, HB, HM, Lib.hid (by have := Hn'.out; have e := Nat.succ_mul (k + 1) (8 ^ d); rw [Nat.succ_eq_add_one] at e; omega), h8, hgc⟩
       case measure => simp [intOf]; omega
     ·obtain rfl : k = cs.length := by omega
      have hRb : R = b := by rw [HR.out, Nat.sub_self]; rfl
      subst hRb; have hD := HD.out; unfold luD at hD
      cases hD
      have hn7 : n' + 8 ^ d ≤ n + 8 * 8 ^ d := by
       have h1 := Hn'.out; have h2 := Nat.mul_le_mul_right (8 ^ d) (show cs.length + 1 ≤ 7 by omega)
       omega
      have hp8 : 0 < 8 ^ d := Nat.pow_pos (by omega)
      have x3 := (HF.out wr (gb_trans Hg.out hgc)).x3; obtain ⟨w7, hput, hM7, hg7⟩ := HM.out.put (by omega) i u (by omega) (by omega) (.slice ba bl bc) (by rw [HL.out]; exact HB.out)
      rw [HL.out] at hput
      unfold luV luD k2 at hput
      dsimp only at hput
      have HM7 := Lib.hid hM7; have HB7 := Lib.hid (HB.out.other hg7 (by omega))
      have h12' := heap_gb h12 hg7 (by omega)
      have h8' := heap_gb h8 hg7 (by omega)
      have hgz := gb_trans hgc hg7; obtain ⟨z0, z1, z2⟩ := lu_cells h12; obtain ⟨t0, t1, t2⟩ := lu_cells h12'; obtain ⟨v0, v1, v2⟩ := lu_cells h8'; have f0 := free_of h8' 0; have f1 := free_of h8' 1; have f2 := free_of h8' 2; clear hM7 HM hgc hg7 HR; go_wp2_with fail
      try simp only [Exit.inBlock, Exit.then]
      obtain ⟨V, eV, h8v, hk', hs', hgV⟩ := set_lu h8' (.int .i64 R.sum) (.int .i64 (R.many : Int)) (.slice ba bl bc); refine bodyPost_ret (v := .agg #[.int .i64 R.sum, .int .i64 (R.many : Int), .slice ba bl bc]) ?_ rfl ⟨.slice ba bl bc, n' + 1, rfl, ?_, ?_, by rw [HT.out]; omega, ?_⟩
      ·obtain ⟨r0, r1, r2⟩ := lu_cells h8v
       rw [results_cell1 rfl]; go_simp
      ·rw [eV]; exact hs' _ _ _ HB7.out
      ·rw [eV]; exact gb_then hgz hgV (fun r hr => by cases hr; exact hXw)
      ·rw [eV]; exact HM7.out.step hgV (by intro e; cases e; omega) hs'
  ·obtain ⟨x, rfl, hsx⟩ := hq rfl
   rw [HL.out, HD.out] at hlook hsx
   obtain ⟨xa, xc, rfl⟩ := strs_shape hsx; have Hsx := Lib.hid hsx; clear hq hz IH HR Hok hsx; unfold luV at hlook
   dsimp only at hlook Hsx
   go_upto_region 4 with fail
   obtain ⟨X9, W9, e9, f9, h9, hb9⟩ := any_box W (.cells #[.int .i64 ls, .int .i64 (lm : Int), .slice xa lw.length xc] 103); rw [f9, e9]; clear f9 e9; have h8 := keep_heap h8 hb9; obtain ⟨v0, v1, v2⟩ := lu_cells h9; obtain ⟨z0, z1, z2⟩ := lu_cells h8; have f0 := free_of h8 0; have f1 := free_of h8 1; have f2 := free_of h8 2; clear hlook x3; go_wp2_with fail
   try simp only [Exit.inBlock, Exit.then]
   obtain ⟨V, eV, h8', hk, hs, hgV⟩ := set_lu h8 (.int .i64 ls) (.int .i64 (lm : Int)) (.slice xa lw.length xc); refine bodyPost_ret (v := .agg #[.int .i64 ls, .int .i64 (lm : Int), .slice xa lw.length xc]) ?_ rfl ⟨.slice xa lw.length xc, n, rfl, ?_, ?_, Nat.le_add_right _ _, ?_⟩
   ·obtain ⟨r0, r1, r2⟩ := lu_cells h8'
    rw [results_cell1 rfl]; go_simp
   ·rw [eV]; exact hs _ _ _ (Hsx.out.below hb9)
   ·rw [eV]; exact gb_then (gb_trans hg8 (gb_below hb9 _)) hgV (fun r hr => by cases hr; exact hXw)
   ·rw [eV]; exact (HM.out.below hb9).step hgV (by intro e; cases e; omega) hs
end Go.Proofs.YtfcaokpadodijaaGreat
/- The reference's best line-up. -/
namespace Go.Proofs.YtfcaokpadodijaaGreat
open Go.RowKit Go.Proofs.YtfcaokpadodijaaGreat.Mat

theorem sls_fb {w : World} {lo sg so sk : Nat} {ss : List SlD} (h : Sls w lo (.slice (some ⟨sg, so, none⟩) ss.length sk) ss) (i : Nat) (s : SlD) (hs : ss[i]? = some s) :
  ∃ (x : Value) (lo : Nat), w.cell? ⟨sg, so + i * 2, none⟩ = some (.string s.key) ∧ w.cell? ⟨sg, so + i * 2 + 1, none⟩ = some x ∧ Strs w lo x s.pos := by
 rcases h.at with ⟨e, _⟩ | ⟨g, off, cap, e, _, _, _, hc⟩
 ·cases e
 ·cases e
  obtain ⟨x, h1, h2⟩ := hc i s hs; exact ⟨x, lo, h1 0 _ rfl, h1 1 _ rfl, h2⟩
theorem scs_fb {w : World} {lo lc : Nat} {la : Option Addr} {cs : List ScD} (h : Scs w lo (.slice la cs.length lc) cs) (k : Nat) (c : ScD) (hs : cs[k]? = some c) :
  ∃ (g o : Nat) (x : Value) (lo : Nat), la = some ⟨g, o, none⟩ ∧ w.cell? ⟨g, o + k * 5, none⟩ = some (.string c.who) ∧ w.cell? ⟨g, o + k * 5 + 1, none⟩ = some x ∧ w.cell? ⟨g, o + k * 5 + 2, none⟩ = some (.int .i64 c.num) ∧ w.cell? ⟨g, o + k * 5 + 3, none⟩ = some (.int .i64 c.den) ∧ w.cell? ⟨g, o + k * 5 + 4, none⟩ = some (.bool c.played) ∧ Strs w lo x c.pos := by
 rcases h.at with ⟨_, rfl⟩ | ⟨g, off, cap, e, _, _, _, hc⟩
 ·cases hs
 ·cases e
  obtain ⟨x, h1, h2⟩ := hc k c hs; exact ⟨g, off, x, lo, rfl, h1 0 _ rfl, h1 1 _ rfl, h1 2 _ rfl, h1 3 _ rfl, h1 4 _ rfl, h2⟩
/-- What it answers: the fills, and their sum. -/
def BofV (cs : List ScD) (ss : List SlD) (w : World) (e : Ending) (w' : World) : Prop :=
 ∃ x, e = .returned (.tuple #[x, .int .i64 (luN cs ss 0 0).sum]) ∧ Fis w' w.heap.size x (finL cs ss 0 (luN cs ss 0 0).who) ∧ Below w.heap.size w w'
theorem finL_get {cs : List ScD} {ss : List SlD} : ∀ (xs : List Nat) (j k x : Nat), xs[k]? = some x → (finL cs ss j xs)[k]? = some ⟨(slAt ss (j + k)).key, nameOf cs x⟩
 | [], _, _, _, h => by cases h
 | y :: ys, j, 0, x, h => by cases h; rfl
 | y :: ys, j, k + 1, x, h => by
  rw [finL, List.getElem?_cons_succ, finL_get ys (j + 1) k x h, show j + 1 + k = j + (k + 1) by omega]
def o21_11 : Array Go.Oper := #[
 ⟨some 35, .move (.tmp 9), 30, "scores.go:291", #[], none⟩,
 ⟨some 36, .fieldAddr 103 (.tmp 8) 0, 0, "scores.go:291", #[⟨3, .gcOnly .lateStores⟩], none⟩,
 ⟨some 37, .load 3 (.tmp 36), 3, "scores.go:291", #[⟨1, .data⟩, ⟨3, .gcOnly .lateStores⟩], none⟩,
 ⟨some 4, .assign (.tmp 35), 30, "scores.go:291", #[⟨0, .data⟩, ⟨0, .phase⟩, ⟨1, .textOnly .lateStores⟩, ⟨2, .textOnly .lateStores⟩], none⟩,
 ⟨some 5, .assign (.tmp 37), 3, "scores.go:291", #[⟨2, .data⟩, ⟨3, .chain⟩, ⟨0, .phase⟩, ⟨1, .phase⟩, ⟨2, .phase⟩, ⟨3, .phase⟩], none⟩]
theorem o21_11_0 : o21_11[0]? = some (⟨some 35, .move (.tmp 9), 30, "scores.go:291", #[], none⟩ : Go.Oper) := rfl
theorem o21_11_1 : o21_11[1]? = some (⟨some 36, .fieldAddr 103 (.tmp 8) 0, 0, "scores.go:291", #[⟨3, .gcOnly .lateStores⟩], none⟩ : Go.Oper) := rfl
theorem o21_11_2 : o21_11[2]? = some (⟨some 37, .load 3 (.tmp 36), 3, "scores.go:291", #[⟨1, .data⟩, ⟨3, .gcOnly .lateStores⟩], none⟩ : Go.Oper) := rfl
theorem o21_11_3 : o21_11[3]? = some (⟨some 4, .assign (.tmp 35), 30, "scores.go:291", #[⟨0, .data⟩, ⟨0, .phase⟩, ⟨1, .textOnly .lateStores⟩, ⟨2, .textOnly .lateStores⟩], none⟩ : Go.Oper) := rfl
theorem o21_11_4 : o21_11[4]? = some (⟨some 5, .assign (.tmp 37), 3, "scores.go:291", #[⟨2, .data⟩, ⟨3, .chain⟩, ⟨0, .phase⟩, ⟨1, .phase⟩, ⟨2, .phase⟩, ⟨3, .phase⟩], none⟩ : Go.Oper) := rfl
theorem o21_11_ns : Go.Region.noSelect o21_11 = true := by kernel_rfl
/-- The boxes of the search. -/
def bofW (w : World) (u v : Value) : World := (((w.alloc (.cells #[u] 26)).alloc (.cells #[v] 28)).alloc (.map #[] 0)).alloc (.cells #[.map (some (w.heap.size + 1 + 1))] 100)
def bofF (n : Nat) : Value := .func (.func 65) #[] #[.pointer (some ⟨n, 0, none⟩), .pointer (some ⟨n + 1 + 1 + 1, 0, none⟩), .pointer (some ⟨n + 1 + 1 + 1 + 1, 0, none⟩), .pointer (some ⟨n + 1, 0, none⟩)]
theorem bof_base (cs : List ScD) (ss : List SlD) (lo lo' sg so sk lc : Nat) (la : Option Addr) (w V : World) (hV : V = (bofW w (.slice (some ⟨sg, so, none⟩) ss.length sk) (.slice la cs.length lc)).alloc (.cells #[bofF w.heap.size] 101))
  (hS : Sls w lo (.slice (some ⟨sg, so, none⟩) ss.length sk) ss) (hC : Scs w lo' (.slice la cs.length lc) cs) :
  Below w.heap.size w V ∧ V.heap.size = w.heap.size + 5 ∧ MQ cs ss (w.heap.size + 1 + 1) 0 V ∧ ∀ w', V.grownBy w' (some (w.heap.size + 1 + 1)) → FB cs ss w.heap.size (w.heap.size + 1 + 1 + 1) (w.heap.size + 1 + 1 + 1 + 1) (w.heap.size + 1) (w.heap.size + 1 + 1) sg so sk la lc w' := by
 unfold bofW at hV
 obtain ⟨W1, h1⟩ : ∃ W1, W1 = w.alloc (.cells #[.slice (some ⟨sg, so, none⟩) ss.length sk] 26) := ⟨_, rfl⟩
 obtain ⟨W2, h2⟩ : ∃ W2, W2 = W1.alloc (.cells #[.slice la cs.length lc] 28) := ⟨_, rfl⟩
 obtain ⟨W3, h3⟩ : ∃ W3, W3 = W2.alloc (.map #[] 0) := ⟨_, rfl⟩
 obtain ⟨W4, h4⟩ : ∃ W4, W4 = W3.alloc (.cells #[.map (some (w.heap.size + 1 + 1))] 100) := ⟨_, rfl⟩
 rw [← h1, ← h2, ← h3, ← h4] at hV
 have s1 : W1.heap.size = w.heap.size + 1 := by rw [h1, World.size_alloc]
 have s2 : W2.heap.size = w.heap.size + 1 + 1 := by rw [h2, World.size_alloc, s1]
 have s3 : W3.heap.size = w.heap.size + 1 + 1 + 1 := by rw [h3, World.size_alloc, s2]
 have s4 : W4.heap.size = w.heap.size + 1 + 1 + 1 + 1 := by rw [h4, World.size_alloc, s3]
 have s5 : V.heap.size = w.heap.size + 5 := by rw [hV, World.size_alloc, s4]
 have b1 : Below w.heap.size w W1 := by rw [h1]; exact below_alloc w _
 have b2 : Below W1.heap.size W1 W2 := by rw [h2]; exact below_alloc W1 _
 have b3 : Below W2.heap.size W2 W3 := by rw [h3]; exact below_alloc W2 _
 have b4 : Below W3.heap.size W3 W4 := by rw [h4]; exact below_alloc W3 _
 have b5 : Below W4.heap.size W4 V := by rw [hV]; exact below_alloc W4 _
 have x1 : W1.heap[w.heap.size]? = some (.cells #[.slice (some ⟨sg, so, none⟩) ss.length sk] 26 (0, 0)) := by rw [h1]; exact heap_alloc_new w _
 have x2 : W2.heap[w.heap.size + 1]? = some (.cells #[.slice la cs.length lc] 28 (0, 0)) := by rw [h2, ← s1]; exact heap_alloc_new W1 _
 have x4 : W4.heap[w.heap.size + 1 + 1 + 1]? = some (.cells #[.map (some (w.heap.size + 1 + 1))] 100 (0, 0)) := by rw [h4, ← s3]; exact heap_alloc_new W3 _
 have x5 : V.heap[w.heap.size + 1 + 1 + 1 + 1]? = some (.cells #[bofF w.heap.size] 101 (0, 0)) := by rw [hV, ← s4]; exact heap_alloc_new W4 _
 have y1 := keep_heap (keep_heap (keep_heap (keep_heap x1 b2) b3) b4) b5
 have y2 := keep_heap (keep_heap (keep_heap x2 b3) b4) b5
 have y4 := keep_heap x4 b5
 have hb : Below w.heap.size w V := below_step (below_step (below_step (below_step b1 b2) b3) b4) b5
 have hM : MQ cs ss (w.heap.size + 1 + 1) 0 W3 := by
  rw [h3, ← s2]; exact MemoQ.made W2 _
 refine ⟨hb, s5, (hM.below b4).below b5, fun w' hg => ?_⟩
 have hbw : Below w.heap.size w w' := hb.grown hg (by omega) (fun r hr => by cases hr; omega)
 have z1 := heap_gb y1 hg (by omega)
 have z2 := heap_gb y2 hg (by omega)
 have z4 := heap_gb y4 hg (by omega)
 have z5 := heap_gb x5 hg (by omega)
 exact ⟨cell_at z1 0 rfl, cell_at z4 0 rfl, cell_at z5 0 rfl, cell_at z2 0 rfl, sls_fb (NRows.below hS hbw), scs_fb (NRows.below hC hbw)⟩
set_option maxRecDepth 100000 in
set_option maxHeartbeats 16000000 in
theorem bestOf_calls (cs : List ScD) (ss : List SlD) (lo lo' : Nat) (u v : Value) (w : World) (hS : Sls w lo u ss) (hC : Scs w lo' v cs) (h0 : 0 < ss.length) (hm : ss.length ≤ 4) (hn : cs.length ≤ 6)
  (hfw : ∀ c ∈ cs, FitW c) (hne : ∀ c ∈ cs, c.who.size ≠ 0) (hsort : SortedK (cs.map ScD.who)) (hkey : ∀ c ∈ cs, keyB c.who = true) :
  Calls Tryz.prog 21 #[u, v] w (BofV cs ss w) := by
 obtain ⟨la, lc, rfl⟩ := NRows.shape hC
 obtain ⟨sg, so, sk, rfl⟩ : ∃ sg so sk, u = .slice (some ⟨sg, so, none⟩) ss.length sk := by
  rcases NRows.at hS with ⟨_, rfl⟩ | ⟨g, off, cap, e, _⟩
  ·simp at h0
  ·exact ⟨g, off, cap, e⟩
 obtain ⟨V, hV⟩ : ∃ V, V = (bofW w (.slice (some ⟨sg, so, none⟩) ss.length sk) (.slice la cs.length lc)).alloc (.cells #[bofF w.heap.size] 101) := ⟨_, rfl⟩
 obtain ⟨hbV, hsV, hM, hFB⟩ := bof_base cs ss lo lo' sg so sk lc la w V hV hS hC
 have HF := Lib.hid hFB
 have C0 := Lib.hid (from_calls cs ss w.heap.size (w.heap.size + 1 + 1 + 1) (w.heap.size + 1 + 1 + 1 + 1) (w.heap.size + 1) (w.heap.size + 1 + 1) sg so sk lc la V hm hn hfw hne hsort hkey hFB (by intro args w; go_simp) ss.length 0 0 0 V (by omega) (by omega) (by
  have h8 : 8 ^ ss.length ≤ 8 ^ 4 := Nat.pow_le_pow_right (by omega) hm
  omega) (gb_refl _ _) hM)
 have hok := luN_ok hfw (cs := cs) (ss := ss) 0 0
 have HV := Lib.hid hV
 have x4 := (hFB V (gb_refl _ _)).x4
 have HbV := Lib.hid hbV
 unfold FromV at C0
 unfold BofV
 generalize luN cs ss 0 0 = r at C0 hok ⊢
 have Hok := Lib.hid hok
 have Hsk := Lib.hid (show ∀ w', Below w.heap.size w w' → ∀ i s, ss[i]? = some s → ∃ (x : Value) (lo : Nat), w'.cell? ⟨sg, so + i * 2, none⟩ = some (.string s.key) ∧ w'.cell? ⟨sg, so + i * 2 + 1, none⟩ = some x ∧ Strs w' lo x s.pos from fun w' hb i s hs => sls_fb (NRows.below hS hb) i s hs)
 clear hS hC hM hFB hV hbV hok hfw hne hsort hkey
 have hmm := @run_makeMap Tryz.prog
 go_enter Tryz.func21, Tryz.ntmps21
 go_upto_region 4 with fail
 have hV' := HV.out
 unfold bofW bofF at hV'
 rw [← hV']
 clear hV' HV hmm
 go_wp2_with fail
 refine C0.out.mono ?_
 rintro e w5 ⟨x, n', rfl, hs5, hg5, -, -⟩
 clear C0 x4
 have hx2 := (HF.out w5 hg5).x2
 have hb5 : Below w.heap.size w w5 := HbV.out.grown hg5 (by omega) (fun r hr => by cases hr; omega)
 obtain ⟨xa, xl, xc, rfl⟩ := strs_shapeN hs5
 unfold luD at hs5 ⊢
 unfold luV
 dsimp only at hs5 ⊢
 obtain ⟨X8, W8, e8, f8, h8, hb8⟩ := any_box w5 (.cells #[.int .i64 r.sum, .int .i64 (r.many : Int), .slice xa xl xc] 103)
 have hxl : xl = ss.length := by
  obtain ⟨a, c, e⟩ := strs_shape hs5; cases e
  rw [List.length_map, Hok.out.len]; omega
 subst hxl
 go_upto_region 6 with fail
 clear f8 e8
 have hs8 := hs5.below hb8
 have hbw8 := Lib.hid (below_step hb5 hb8)
 obtain ⟨xg, xo, rfl, Hxc⟩ : ∃ (xg xo : Nat), xa = some ⟨xg, xo, none⟩ ∧ Hid (∀ (i : Nat) (k : ByteArray), (List.map (nameOf cs) r.who)[i]? = some k → W8.cell? ⟨xg, xo + i, none⟩ = some (.string k)) := by
  rcases strs_at hs8 with ⟨e, h⟩ | ⟨g, off, cap, e, _, _, _, hc⟩
  ·have h1 : (List.map (nameOf cs) r.who).length = 0 := by rw [h]; rfl
   rw [List.length_map, Hok.out.len] at h1
   omega
  ·rw [List.length_map, Hok.out.len] at e
   cases e
   exact ⟨g, off, rfl, Lib.hid hc⟩
 have hwl : r.who.length = ss.length := by rw [Hok.out.len]; omega
 obtain ⟨i0, hi0, hz0, hz1, hz2⟩ := info_parts info_fi
 have HI := Lib.hid hi0
 have x2 := below_cell hb8 hx2
 have H2 := Lib.hid x2
 obtain ⟨s0, s1, s2⟩ := lu_cells h8
 have H8 := Lib.hid h8
 clear hs5 hs8 hb5 hg5 hb8 hx2 h8 hi0 x2 s0 s1
 go_wp2_with fail
 clear s2
 go_loopw [9, 19] (fun ov idx wr => ∃ k : Nat, k ≤ ss.length ∧ idx = .int .i64 (k : Int) ∧ Hid (OwnFi wr W8.heap.size ov ((finL cs ss 0 r.who).take k)) ∧ Below W8.heap.size W8 wr) (fun _ idx _ => ss.length - (intOf idx).toNat)
 case atStart => exact ⟨0, Nat.zero_le _, rfl, Lib.hid (by unfold OwnFi; simpa using World.ownsRow_nil _ _ _ _), Below.refl _ _⟩
 case round =>
  obtain ⟨k, hk, rfl, Hown, hb⟩ := hrel; by_cases hlt : k < ss.length
  ·have hlt' : (k : Int) < (ss.length : Int) := by omega
   have hs : ss[k]? = some ss[k] := List.getElem?_eq_getElem hlt
   generalize ss[k] = s at hs
   have hx : r.who[k]? = some r.who[k] := List.getElem?_eq_getElem (by omega)
   generalize r.who[k] = x at hx
   have x2 := below_cell hb H2.out; obtain ⟨_, _, p0, _, _⟩ := Hsk.out wr (hbw8.out.trans (hb.mono (by have := hbw8.out.size; omega))) k s hs
   have c0 := below_cell hb (Hxc.out k (nameOf cs x) (by rw [List.getElem?_map, hx]; rfl))
   have hsz := hb.size; have hfl : ((finL cs ss 0 r.who).take k).length = k := by rw [List.length_take, finL_length]; omega
   have hown := Hown.out; unfold OwnFi at hown
   rw [hfl] at hown
   have Ho2 := Lib.hid hown
   have hfg : (finL cs ss 0 r.who).take (k + 1) = (finL cs ss 0 r.who).take k ++ [⟨s.key, nameOf cs x⟩] := by
    have h := finL_get (cs := cs) (ss := ss) r.who 0 k x hx; rw [Nat.zero_add, slAt_some hs] at h
    rw [List.take_add_one, h]; rfl
   have Hfg := Lib.hid hfg; have hi1 := HI.out; clear hown hfg Hown hfl; go_wp2_with (at_builtin; refine wpList_append_own _ rfl _ _ 30 rfl W8.heap.size 49 i0 (.agg #[.string ⟨#[]⟩, .string ⟨#[]⟩]) 2 32 Tryz.underlying30 hi1 hz0 hz1 hz2 rfl (by decide) _ _ _ rfl (Ho2.out.alloc _) ⟨wr.heap.size, 0, none⟩ 1 1 [.string s.key, .string (nameOf cs x)] rfl rfl ?c1 ?c2 ?c3 ?c4 ?c5 ?_)
   case c1 => exact cells_new _ _ _
   case c2 => simp [Value.oneCell']
   case c3 => unfold maxLen; omega
   case c4 => omega
   case c5 => simp; omega
   intro v' w9 hown9 hgrow _; clear hi1; go_wp2_with fail
   go_roundw
   case rel =>
    refine ⟨k + 1, by omega, by go_num, Lib.hid ?_, (below_step hb (below_alloc wr _)).grown hgrow (by simp; omega) fun r hr => (own_block Ho2.out r hr).1⟩
    rw [Hfg.out]; unfold OwnFi; have e1 : ((finL cs ss 0 r.who).take k ++ [(⟨s.key, nameOf cs x⟩ : FiD)]).length = k + 1 := by rw [List.length_append, List.length_take, finL_length]; simp; omega
    rw [e1]; simpa [fiRow] using hown9
   case measure => simp [intOf]; omega
  ·obtain rfl : k = ss.length := by omega
   have hown := Hown.out; rw [List.take_of_length_le (by rw [finL_length]; omega)] at hown
   have HO := Lib.hid hown; have h8r := keep_heap H8.out hb; obtain ⟨s0, s1, s2⟩ := lu_cells h8r; clear hown Hown; go_upto_region 11 with fail
   have hC : wr.drew.cell? ⟨X8, 0, none⟩ = some (.int .i64 r.sum) := s0
   clear s0 s1 s2; show Code.wp _ (Code.region 11 o21_11 true) _ _ _
   refine region_start 5 (fun w' => w'.cell? ⟨X8, 0, none⟩ = some (.int .i64 r.sum)) (by kernel_rfl) rfl ?_ (fun hHeld => ?_)
   ·(exact hC)
   refine take_to 0 35 #[true, false, false, false, false] (v := ?_) o21_11_0 rfl o21_11_ns (by kernel_rfl) (by kernel_rfl) (fun _ _ _ h => h) (by rfl) ?y0 (by assumption) ?_
   case y0 => intro w h; (try dsimp only at h); go_simp; try with_reducible rfl
   simp only [sE0, sE1]; refine take_to 1 36 #[true, true, false, false, false] (v := ?_) o21_11_1 rfl o21_11_ns (by kernel_rfl) (by kernel_rfl) (fun _ _ _ h => h) (by rfl) ?y1 (by assumption) ?_
   case y1 => intro w h; (try dsimp only at h); go_simp; try with_reducible rfl
   simp only [sE0, sE1]; refine take_to 2 37 #[true, true, true, false, false] (v := ?_) o21_11_2 rfl o21_11_ns (by kernel_rfl) (by kernel_rfl) (fun _ _ _ h => h) (by rfl) ?y2 (by assumption) ?_
   case y2 => intro w h; (try dsimp only at h); go_simp; try with_reducible rfl
   simp only [sE0, sE1]; refine take_to 3 4 #[true, true, true, true, false] (v := ?_) o21_11_3 rfl o21_11_ns (by kernel_rfl) (by kernel_rfl) (fun _ _ _ h => h) (by rfl) ?y3 (by assumption) ?_
   case y3 => intro w h; (try dsimp only at h); go_simp; try with_reducible rfl
   simp only [sE0, sE1]; refine take_to 4 5 #[true, true, true, true, true] (v := ?_) o21_11_4 rfl o21_11_ns (by kernel_rfl) (by kernel_rfl) (fun _ _ _ h => h) (by rfl) ?y4 (by assumption) ?_
   case y4 => intro w h; (try dsimp only at h); go_simp; try with_reducible rfl
   simp only [sE0, sE1]; refine wpAnyH_done (by kernel_rfl) ?_ _
   go_wp2_with fail
   go_ret2
   exact ⟨_, rfl, Fis.below (fis_of_owns (own_mono HO.out (by have := hbw8.out.size; omega)) (by rw [finL_length]; omega)) ((Below.refl wr.heap.size wr).drew), hbw8.out.trans ((hb.mono (by have := hbw8.out.size; omega)).drew)⟩
end Go.Proofs.YtfcaokpadodijaaGreat
/- score.Lacking: the slots that stay empty. -/
namespace Go.Proofs.YtfcaokpadodijaaGreat
open Go.RowKit Go.Proofs.YtfcaokpadodijaaGreat.Mat

def o82_1 : Array Go.Oper := #[
 ⟨some 7, .load 28 (.tmp 2), 28, "best.go:43", #[], none⟩,
 ⟨some 8, .move (.tmp 1), 3, "best.go:43", #[], none⟩,
 ⟨some 9, .indexAddr 28 (.tmp 7) (.tmp 8), 0, "best.go:43", #[⟨0, .data⟩, ⟨1, .data⟩], none⟩,
 ⟨some 10, .load 77 (.tmp 9), 77, "best.go:43", #[⟨2, .data⟩], none⟩,
 ⟨some 11, .load 26 (.tmp 3), 26, "best.go:43", #[], none⟩,
 ⟨some 12, .move (.tmp 0), 3, "best.go:43", #[], none⟩,
 ⟨some 13, .indexAddr 26 (.tmp 11) (.tmp 12), 0, "best.go:43", #[⟨4, .data⟩, ⟨5, .data⟩], none⟩,
 ⟨some 14, .load 72 (.tmp 13), 72, "best.go:43", #[⟨6, .data⟩], none⟩,
 ⟨some 15, .call { callee := .value (.func 77), args := #[.tmp 10, .tmp 14], argTypes := #[77, 72] }, 4, "best.go:43", #[⟨3, .data⟩, ⟨7, .data⟩], none⟩,
 ⟨some 6, .assign (.tmp 15), 4, "best.go:43", #[⟨8, .data⟩, ⟨8, .chain⟩, ⟨0, .phase⟩, ⟨1, .phase⟩, ⟨2, .phase⟩, ⟨3, .phase⟩, ⟨4, .phase⟩, ⟨5, .phase⟩, ⟨6, .phase⟩, ⟨7, .phase⟩, ⟨8, .phase⟩], none⟩]
theorem o82_1_0 : o82_1[0]? = some (⟨some 7, .load 28 (.tmp 2), 28, "best.go:43", #[], none⟩ : Go.Oper) := rfl
theorem o82_1_1 : o82_1[1]? = some (⟨some 8, .move (.tmp 1), 3, "best.go:43", #[], none⟩ : Go.Oper) := rfl
theorem o82_1_2 : o82_1[2]? = some (⟨some 9, .indexAddr 28 (.tmp 7) (.tmp 8), 0, "best.go:43", #[⟨0, .data⟩, ⟨1, .data⟩], none⟩ : Go.Oper) := rfl
theorem o82_1_3 : o82_1[3]? = some (⟨some 10, .load 77 (.tmp 9), 77, "best.go:43", #[⟨2, .data⟩], none⟩ : Go.Oper) := rfl
theorem o82_1_4 : o82_1[4]? = some (⟨some 11, .load 26 (.tmp 3), 26, "best.go:43", #[], none⟩ : Go.Oper) := rfl
theorem o82_1_5 : o82_1[5]? = some (⟨some 12, .move (.tmp 0), 3, "best.go:43", #[], none⟩ : Go.Oper) := rfl
theorem o82_1_6 : o82_1[6]? = some (⟨some 13, .indexAddr 26 (.tmp 11) (.tmp 12), 0, "best.go:43", #[⟨4, .data⟩, ⟨5, .data⟩], none⟩ : Go.Oper) := rfl
theorem o82_1_7 : o82_1[7]? = some (⟨some 14, .load 72 (.tmp 13), 72, "best.go:43", #[⟨6, .data⟩], none⟩ : Go.Oper) := rfl
theorem o82_1_8 : o82_1[8]? = some (⟨some 15, .call { callee := .value (.func 77), args := #[.tmp 10, .tmp 14], argTypes := #[77, 72] }, 4, "best.go:43", #[⟨3, .data⟩, ⟨7, .data⟩], none⟩ : Go.Oper) := rfl
theorem o82_1_9 : o82_1[9]? = some (⟨some 6, .assign (.tmp 15), 4, "best.go:43", #[⟨8, .data⟩, ⟨8, .chain⟩, ⟨0, .phase⟩, ⟨1, .phase⟩, ⟨2, .phase⟩, ⟨3, .phase⟩, ⟨4, .phase⟩, ⟨5, .phase⟩, ⟨6, .phase⟩, ⟨7, .phase⟩, ⟨8, .phase⟩], none⟩ : Go.Oper) := rfl
theorem o82_1_ns : Go.Region.noSelect o82_1 = true := by kernel_rfl
set_option maxRecDepth 100000 in
set_option maxHeartbeats 4000000 in
theorem lacking1_calls (cs : List ScD) (ss : List SlD) (lo lo' X2 X3 i k : Nat) (u v : Value) (w : World) (hS : Sls w lo u ss) (hC : Scs w lo' v cs) (x2 : w.cell? ⟨X2, 0, none⟩ = some v) (x3 : w.cell? ⟨X3, 0, none⟩ = some u) (hi : i < ss.length) (hk : k < cs.length) :
  Calls Tryz.prog 82 #[.int .i64 (i : Int), .int .i64 (k : Int), .pointer (some ⟨X2, 0, none⟩), .pointer (some ⟨X3, 0, none⟩)] w (BoolIs (suitB (scAt cs k) (slAt ss i)) w) := by
 have hc : cs[k]? = some cs[k] := List.getElem?_eq_getElem hk
 rw [scAt_some hc]
 generalize cs[k] = c at hc
 have hs : ss[i]? = some ss[i] := List.getElem?_eq_getElem hi
 rw [slAt_some hs]
 generalize ss[i] = s at hs
 obtain ⟨sg, so, sk, rfl⟩ : ∃ sg so sk, u = .slice (some ⟨sg, so, none⟩) ss.length sk := by
  rcases NRows.at hS with ⟨_, rfl⟩ | ⟨g, off, cap, e, _⟩
  ·simp at hi
  ·exact ⟨g, off, cap, e⟩
 obtain ⟨la, lc, rfl⟩ := NRows.shape hC
 obtain ⟨sx, slo, p0, p1, hsp⟩ := sls_fb hS i s hs
 obtain ⟨g, o, cx, clo, rfl, q0, q1, q2, q3, q4, hcp⟩ := scs_fb hC k c hc
 obtain ⟨pa, pl, pc, rfl⟩ := strs_shapeN hcp
 obtain ⟨ra, rl, rc, rfl⟩ := strs_shapeN hsp
 have hi' : (i : Int) < (ss.length : Int) := by omega
 have hk' : (k : Int) < (cs.length : Int) := by omega
 have HS := Lib.hid (show ∀ w', Below w.heap.size w w' → (Below w.heap.size w w' ∧ w'.cell? ⟨X2, 0, none⟩ = some (.slice (some ⟨g, o, none⟩) cs.length lc) ∧ w'.cell? ⟨X3, 0, none⟩ = some (.slice (some ⟨sg, so, none⟩) ss.length sk) ∧ w'.cell? ⟨sg, so + i * 2, none⟩ = some (.string s.key) ∧ w'.cell? ⟨sg, so + i * 2 + 1, none⟩ = some (.slice ra rl rc) ∧ w'.cell? ⟨g, o + k * 5, none⟩ = some (.string c.who) ∧ w'.cell? ⟨g, o + k * 5 + 1, none⟩ = some (.slice pa pl pc) ∧ w'.cell? ⟨g, o + k * 5 + 2, none⟩ = some (.int .i64 c.num) ∧ w'.cell? ⟨g, o + k * 5 + 3, none⟩ = some (.int .i64 c.den) ∧ w'.cell? ⟨g, o + k * 5 + 4, none⟩ = some (.bool c.played)) from fun w' hb => ⟨hb, below_cell hb x2, below_cell hb x3, below_cell hb p0, below_cell hb p1, below_cell hb q0, below_cell hb q1, below_cell hb q2, below_cell hb q3, below_cell hb q4⟩)
 have hb0 := (Below.refl w.heap.size w).drew
 clear hS hC x2 x3 p0 p1 q0 q1 q2 q3 q4 hc hs
 go_enter Tryz.func82, Tryz.ntmps82
 go_upto_region 1 with fail
 show Code.wp _ (Code.region 1 o82_1 true) _ _ _
 refine region_start 10 (fun w' => Below w.heap.size w w' ∧ w'.cell? ⟨X2, 0, none⟩ = some (.slice (some ⟨g, o, none⟩) cs.length lc) ∧ w'.cell? ⟨X3, 0, none⟩ = some (.slice (some ⟨sg, so, none⟩) ss.length sk) ∧ w'.cell? ⟨sg, so + i * 2, none⟩ = some (.string s.key) ∧ w'.cell? ⟨sg, so + i * 2 + 1, none⟩ = some (.slice ra rl rc) ∧ w'.cell? ⟨g, o + k * 5, none⟩ = some (.string c.who) ∧ w'.cell? ⟨g, o + k * 5 + 1, none⟩ = some (.slice pa pl pc) ∧ w'.cell? ⟨g, o + k * 5 + 2, none⟩ = some (.int .i64 c.num) ∧ w'.cell? ⟨g, o + k * 5 + 3, none⟩ = some (.int .i64 c.den) ∧ w'.cell? ⟨g, o + k * 5 + 4, none⟩ = some (.bool c.played)) (by kernel_rfl) rfl ?_ (fun hHeld => ?_)
 ·(exact HS.out _ (by first | assumption | exact hHeld.1))
 refine take_to 0 7 (bQ 10 1) (v := ?_) o82_1_0 rfl o82_1_ns (by kernel_rfl) (by kernel_rfl) (fun _ _ _ h => h) (by rfl) ?y0 (by assumption) ?_
 case y0 => intro w h; (try dsimp only at h); go_simp; try with_reducible rfl
 simp only [sE0, sE1]
 refine take_to 1 8 (bQ 10 3) (v := ?_) o82_1_1 rfl o82_1_ns (by kernel_rfl) (by kernel_rfl) (fun _ _ _ h => h) (by rfl) ?y1 (by assumption) ?_
 case y1 => intro w h; (try dsimp only at h); go_simp; try with_reducible rfl
 simp only [sE0, sE1]
 refine take_to 2 9 (bQ 10 7) (v := ?_) o82_1_2 rfl o82_1_ns (by kernel_rfl) (by kernel_rfl) (fun _ _ _ h => h) (by rfl) ?y2 (by assumption) ?_
 case y2 => intro w h; (try dsimp only at h); go_simp; try with_reducible rfl
 simp only [sE0, sE1]
 refine take_to 3 10 (bQ 10 15) (v := ?_) o82_1_3 rfl o82_1_ns (by kernel_rfl) (by kernel_rfl) (fun _ _ _ h => h) (by rfl) ?y3 (by assumption) ?_
 case y3 => intro w h; (try dsimp only at h); go_simp; try with_reducible rfl
 simp only [sE0, sE1]
 refine take_to 4 11 (bQ 10 31) (v := ?_) o82_1_4 rfl o82_1_ns (by kernel_rfl) (by kernel_rfl) (fun _ _ _ h => h) (by rfl) ?y4 (by assumption) ?_
 case y4 => intro w h; (try dsimp only at h); go_simp; try with_reducible rfl
 simp only [sE0, sE1]
 refine take_to 5 12 (bQ 10 63) (v := ?_) o82_1_5 rfl o82_1_ns (by kernel_rfl) (by kernel_rfl) (fun _ _ _ h => h) (by rfl) ?y5 (by assumption) ?_
 case y5 => intro w h; (try dsimp only at h); go_simp; try with_reducible rfl
 simp only [sE0, sE1]
 refine take_to 6 13 (bQ 10 127) (v := ?_) o82_1_6 rfl o82_1_ns (by kernel_rfl) (by kernel_rfl) (fun _ _ _ h => h) (by rfl) ?y6 (by assumption) ?_
 case y6 => intro w h; (try dsimp only at h); go_simp; try with_reducible rfl
 simp only [sE0, sE1]
 refine take_to 7 14 (bQ 10 255) (v := ?_) o82_1_7 rfl o82_1_ns (by kernel_rfl) (by kernel_rfl) (fun _ _ _ h => h) (by rfl) ?y7 (by assumption) ?_
 case y7 => intro w h; (try dsimp only at h); go_simp; try with_reducible rfl
 simp only [sE0, sE1]
 refine run_to 8 (bQ 10 511) o82_1_8 (by kernel_rfl) (by kernel_rfl) (by rfl) (fun K hK => ?_)
 go_simp
 refine (suits_calls _ _ _ _ c s _ (hcp.below hb0) (hsp.below hb0)).mono ?_
 rintro e w2 ⟨rfl, hb2⟩
 have hbz := below_step hb0 hb2
 go_wp2_with fail
 refine hK.out _ _ ?_ (fun hHeld => ?_)
 ·(exact HS.out _ (by first | assumption | exact hHeld.1))
 clear hK K
 try simp only [Act.put, sEt, sE0, sE1]
 refine take_to 9 6 (bQ 10 1023) (v := ?_) o82_1_9 rfl o82_1_ns (by kernel_rfl) (by kernel_rfl) (fun _ _ _ h => h) (by rfl) ?y9 (by assumption) ?_
 case y9 => intro w h; (try dsimp only at h); go_simp; try with_reducible rfl
 simp only [sE0, sE1]
 refine wpAnyH_done (by kernel_rfl) ?_ _
 have hb2 := hHeld.1
 clear hHeld HS
 go_wp2_with fail
 go_ret
 exact ⟨rfl, hb2⟩
/-- Slot i can be filled by scorer k. -/
def fitL (cs : List ScD) (ss : List SlD) (i k : Nat) : Bool := suitB (scAt cs k) (slAt ss i)
/-- The slots among the first k that are filled. -/
noncomputable def lkA (cs : List ScD) (ss : List SlD) (k : Nat) : List Nat := grd (canP (fitL cs ss) cs.length) [] (List.range k)
/-- The keys of those that are not. -/
noncomputable def lkL (cs : List ScD) (ss : List SlD) (k : Nat) : List ByteArray := ((List.range k).filter fun i => !canP (fitL cs ss) cs.length (i :: lkA cs ss i)).map fun i => (slAt ss i).key
theorem lkA_succ (cs : List ScD) (ss : List SlD) (k : Nat) : lkA cs ss (k + 1) = if canP (fitL cs ss) cs.length (k :: lkA cs ss k) then k :: lkA cs ss k else lkA cs ss k := by
 unfold lkA
 rw [List.range_succ, grd_snoc]
theorem lkL_succ (cs : List ScD) (ss : List SlD) (k : Nat) : lkL cs ss (k + 1) = lkL cs ss k ++ (if canP (fitL cs ss) cs.length (k :: lkA cs ss k) then [] else [(slAt ss k).key]) := by
 unfold lkL
 rw [List.range_succ, List.filter_append, List.map_append]
 congr 1
 cases h : canP (fitL cs ss) cs.length (k :: lkA cs ss k) <;> simp [h]
theorem lkA_lt (cs : List ScD) (ss : List SlD) (k : Nat) : k ∉ lkA cs ss k := fun h => by
 rcases (grd_sub (can := canP (fitL cs ss) cs.length) (List.range k) []).1 k h with h | h
 ·cases h
 ·exact absurd (List.mem_range.1 h) (by omega)
theorem lkL_len (cs : List ScD) (ss : List SlD) (k : Nat) : (lkL cs ss k).length ≤ k := by
 unfold lkL
 rw [List.length_map]
 exact Nat.le_trans (List.length_filter_le _ _) (by rw [List.length_range]; exact Nat.le_refl _)
/-- A row of the call's own as a box that stays as it is. -/
theorem own_ex {w : World} {base T sz n : Nat} {v : Value} {xs : List Value} (h : w.ownsRow base T sz v n xs) :
  ∃ ex : List (Nat × Obj), (∀ b ∈ ex, base ≤ b.1 ∧ w.heap[b.1]? = some b.2) ∧ ∀ w' : World, (∀ b ∈ ex, w'.heap[b.1]? = some b.2) → w'.ownsRow base T sz v n xs := by
 rcases h.2 with hn | ⟨g, cap, cur, rfl, hb, hg, rest⟩
 ·exact ⟨[], (fun b hb => by cases hb), fun w' _ => ⟨h.1, .inl hn⟩⟩
 ·exact ⟨[(g, .cells cur T (0, 0))], fun b hm => by obtain rfl := List.mem_singleton.1 hm; exact ⟨hb, hg⟩, fun w' hw => ⟨h.1, .inr ⟨g, cap, cur, rfl, hb, hw _ (.head _), rest⟩⟩⟩
theorem Plcd.grown {fits : Nat → Nat → Bool} {n P lo X2 X3 X5 X6 T H ta ha gf m : Nat} {caps : Array Value} {w0 : World} {A : List Nat} {w w' : World} {row : Option Nat} (h : Plcd fits n P lo X2 X3 X5 X6 T H ta ha gf caps w0 A w) (hg : w.grownBy w' row) (hr : ∀ r, row = some r → m ≤ r) (hm : T < m ∧ H < m ∧ X2 < m ∧ X3 < m ∧ X5 < m ∧ X6 < m ∧ lo ≤ m ∧ lo ≤ w.heap.size) :
  Plcd fits n P lo X2 X3 X5 X6 T H ta ha gf caps w0 A w' := by
 obtain ⟨s, h1, ⟨⟨ct, t1, t2⟩, ⟨ch, c1, c2⟩, low, ne⟩, h3, h4⟩ := h
 have keep : ∀ (g : Nat) (o : Obj), w.heap[g]? = some o → g < m → w'.heap[g]? = some o := fun g o ho hgm => (hg.block g (lt_of_heap ho) (fun e => by have := hr g e.symm; omega)).trans ho
 refine ⟨s, h1, ⟨⟨ct, keep _ _ t1 hm.1, t2⟩, ⟨ch, keep _ _ c1 hm.2.1, c2⟩, low, ne⟩, fun b hb => keep _ _ (h3 b hb) ?_, h4.grown hg hm.2.2.2.2.2.2.2 (fun r e => by have := hr r e; omega)⟩
 unfold plBs at hb
 simp only [List.mem_cons, List.not_mem_nil, or_false] at hb
 rcases hb with rfl | rfl | rfl | rfl <;> simp only <;> omega
/-- What Lacking answers. -/
noncomputable def lakL (cs : List ScD) (ss : List SlD) : List ByteArray := if sdE ss cs = 0 then lkL cs ss ss.length else []
def LakV (ss : List SlD) (cs : List ScD) (w : World) (e : Ending) (w' : World) : Prop :=
 ∃ x, e = .returned (.tuple #[x, .int .i64 (sdE ss cs)]) ∧ Strs w' 0 x (lakL cs ss) ∧ Below w.heap.size w w'
set_option maxRecDepth 100000 in
set_option maxHeartbeats 8000000 in
theorem lacking_calls (lo lo' : Nat) (v u : Value) (ss : List SlD) (cs : List ScD) (w : World) (hS : Sls w lo' v ss) (hs : ∀ c ∈ ss, SmallSl c) (hsn : ss.length ≤ 1000) (hC : Scs w lo u cs) (hc : ∀ c ∈ cs, SmallSc c) (hn : cs.length ≤ 1000) :
  Calls Tryz.prog 31 #[v, u] w (LakV ss cs w) := by
 obtain ⟨i0, hi0, hz0, hz1, hz2⟩ := info_parts info_str
 have HI := Lib.hid hi0
 obtain ⟨W, hW⟩ : ∃ W, W = (w.alloc (.cells #[v] 26)).alloc (.cells #[u] 28) := ⟨_, rfl⟩
 have hwW : Below w.heap.size w W := by rw [hW]; exact (below_alloc w _).trans ((below_alloc _ _).mono (by simp))
 have y0 : W.heap[w.heap.size]? = some (.cells #[v] 26 (0, 0)) := by rw [hW]; exact heap_al (heap_alloc_new w _) _
 have y1 : W.heap[w.heap.size + 1]? = some (.cells #[u] 28 (0, 0)) := by
  have := heap_alloc_new (w.alloc (.cells #[v] 26)) (.cells #[u] 28)
  rw [World.size_alloc] at this
  rw [hW]; exact this
 have CK := Lib.hid (wrongSides_calls lo' lo v u ss cs W (hS.below hwW) hs (by omega) (hC.below hwW) hc (by omega))
 have HF := Lib.hid (fun (V : World) (hb : Below W.heap.size W V) (i k : Nat) (hi : i < ss.length) (hk : k < cs.length) => lacking1_calls cs ss lo' lo (w.heap.size + 1) w.heap.size i k v u V (NRows.below (NRows.below hS hwW) hb) (NRows.below (NRows.below hC hwW) hb) (below_cell hb (cell_at y1 0 rfl)) (below_cell hb (cell_at y0 0 rfl)) hi hk)
 have HS := Lib.hid (fun (V : World) (hb : Below W.heap.size W V) => NRows.below (NRows.below hS hwW) hb)
 have HY := Lib.hid (fun (V : World) (hb : Below W.heap.size W V) => And.intro (below_cell hb (cell_at y0 0 rfl)) (below_cell hb (cell_at y1 0 rfl)))
 have HwW := Lib.hid hwW
 have HL := Lib.hid (show lakL cs ss = if sdE ss cs = 0 then lkL cs ss ss.length else [] from rfl)
 unfold LakV
 obtain ⟨a, c, rfl⟩ := NRows.shape hC
 obtain ⟨a2, c2, rfl⟩ := NRows.shape hS
 generalize lakL cs ss = R at HL ⊢
 generalize sdE ss cs = E at CK HL ⊢
 clear hS hs hC hc hwW y0 y1 hi0
 go_enter Tryz.func31, Tryz.ntmps31
 go_upto_region 1 with fail
 rw [← hW]
 clear hW
 obtain ⟨x0, x1⟩ := HY.out W (Below.refl _ _)
 go_wp2_with fail
 refine CK.out.mono ?_
 rintro e w1 ⟨rfl, hb1⟩
 clear CK x0 x1
 by_cases hz : E = 0
 ·subst hz
  have hR : R = lkL cs ss ss.length := by rw [HL.out, if_pos rfl]
  have HR := Lib.hid hR; clear hR HL; obtain ⟨x0, x1⟩ := HY.out w1 hb1; have CP := Lib.hid (placing_calls (fitL cs ss) ss.length cs.length 82 #[.pointer (some ⟨w.heap.size + 1, 0, none⟩), .pointer (some ⟨w.heap.size, 0, none⟩)] w1 hn); have egf : ∀ args w, (callFunc 82 args).run Tryz.prog w = .ok (.enter 82 args) w := by intro args w; go_simp
  have CQ := Lib.hid (fun ex X2 X3 X5 X6 T H hT hX A who V hw hA hp hex => place_ex_calls ex (fitL cs ss) ss.length cs.length w1.heap.size X2 X3 X5 X6 T H cs.length cs.length 82 #[.pointer (some ⟨w.heap.size + 1, 0, none⟩), .pointer (some ⟨w.heap.size, 0, none⟩)] w1 hn (by omega) hT hX (fun V' i k hi hk hb => HF.out V' (below_step hb1 hb) i k hi hk) egf A who V hw hA hp hex)
  clear egf; go_wp2_with fail
  refine CP.out.mono ?_; rintro e w2 ⟨X2, X3, X5, X6, T, H, rfl, hTH, hX, hpl⟩; have Hp := Lib.hid hpl; have hb2 := hpl.choose_spec.2.2.2; have CR := Lib.hid (fun ex A who V hw hA hp hex => CQ.out ex X2 X3 X5 X6 T H hTH hX A who V hw hA hp hex)
  have Hm : T < w2.heap.size ∧ H < w2.heap.size ∧ X2 < w2.heap.size ∧ X3 < w2.heap.size ∧ X5 < w2.heap.size ∧ X6 < w2.heap.size ∧ w1.heap.size ≤ w2.heap.size := by
   obtain ⟨s, _, m2, m3, m4⟩ := hpl; obtain ⟨_, t1, _⟩ := m2.t; obtain ⟨_, h1, _⟩ := m2.h; have l2 := lt_of_heap (m3 (X2, _) (.head _)); have l3 := lt_of_heap (m3 (X3, _) (.tail _ (.head _))); have l5 := lt_of_heap (m3 (X5, _) (.tail _ (.tail _ (.head _)))); have l6 := lt_of_heap (m3 (X6, _) (.tail _ (.tail _ (.tail _ (.head _))))); exact ⟨lt_of_heap t1, lt_of_heap h1, l2, l3, l5, l6, m4.size⟩
  obtain ⟨z0, z1⟩ := HY.out w2 (below_step hb1 hb2); have HTH := Lib.hid hTH; have Hmm := Lib.hid Hm; clear CP CQ hTH hX hpl x0 x1 Hm; go_wp2_with fail
  clear z0 z1; go_loopw [8, 23] (fun ov idx wr => ∃ k : Nat, k ≤ ss.length ∧ idx = .int .i64 (k : Int) ∧ Hid (wr.ownsRow w2.heap.size 9 1 ov (lkL cs ss k).length ((lkL cs ss k).map .string)) ∧ w2.heap.size ≤ wr.heap.size ∧ Hid (Plcd (fitL cs ss) ss.length cs.length w1.heap.size X2 X3 X5 X6 T H cs.length cs.length 82 #[.pointer (some ⟨w.heap.size + 1, 0, none⟩), .pointer (some ⟨w.heap.size, 0, none⟩)] w1 (lkA cs ss k) wr)) (fun _ idx _ => ss.length - (intOf idx).toNat)
  case atStart => exact ⟨0, Nat.zero_le _, rfl, Lib.hid (by simpa [lkL] using World.ownsRow_nil _ _ _ _), Nat.le_refl _, Hp⟩
  case round =>
   clear Hp hb2; obtain ⟨k, hk, rfl, Hown, hsz, Hp⟩ := hrel; have hb := Hp.out.choose_spec.2.2.2; by_cases hlt : k < ss.length
   ·have hlt' : (k : Int) < (ss.length : Int) := by omega
    have hs : ss[k]? = some ss[k] := List.getElem?_eq_getElem hlt
    generalize ss[k] = s at hs
    have hSl := HS.out wr (below_step hb1 hb)
    obtain ⟨sg, so, sk, he⟩ : ∃ sg so sk, (Value.slice a2 ss.length c2) = .slice (some ⟨sg, so, none⟩) ss.length sk := by
     rcases NRows.at hSl with ⟨_, h⟩ | ⟨g, off, cap, e, _⟩
     ·rw [h] at hlt; simp at hlt
     ·exact ⟨g, off, cap, e⟩
    cases he
    obtain ⟨sx, slo, p0, p1, hsp⟩ := sls_fb hSl k s hs; obtain ⟨sa, sn, sc, rfl⟩ := strs_shapeN hsp; have Hky := Lib.hid (show (slAt ss k).key = s.key by rw [slAt_some hs])
    clear hSl hsp hs; go_upto_region 9 with fail
    obtain ⟨X10, W10, e10, f10, h10, hb10⟩ := any_box wr (.cells #[.string s.key, .slice sa sn sc] 72); rw [f10, e10]; have hown10 := own_below Hown.out hb10; have hp10 := Hp.out.below HTH.out.1 hb10; obtain ⟨ex, hex1, hex2⟩ := own_ex hown10; have hmm := Hmm.out
    have C := Lib.hid (CR.out ((X10, .cells #[.string s.key, .slice sa sn sc] 72 (0, 0)) :: ex) (lkA cs ss k) k W10 hlt (lkA_lt cs ss k) hp10 (fun b hm => by
     rcases List.mem_cons.1 hm with rfl | hm
     ·exact ⟨by show X10 ≠ T; omega, by show X10 ≠ H; omega, h10⟩
     ·obtain ⟨a1, a3⟩ := hex1 b hm
      exact ⟨by omega, by omega, a3⟩))
    have z10 : w2.heap.size ≤ X10 := by omega
    clear f10 e10 hown10 hp10 hex1 h10 hb10 Hown Hp hmm p0 p1; go_wp2_with fail
    refine C.out.mono ?_; rintro e w3 ⟨⟨r, rfl, hr, hp3⟩, hx3⟩; have hown3 := hex2 w3 (fun b hm => hx3 b (.tail _ hm))
    have h10 := hx3 _ (.head _); have hl10 := lt_of_heap h10; have hsz3 : w2.heap.size ≤ w3.heap.size := by simp only at hl10; omega
    have hcan : canP (fitL cs ss) cs.length (k :: lkA cs ss k) = r := by
     rw [Bool.eq_iff_iff, canP_iff]; exact hr.symm
    have hA1 := lkA_succ cs ss k; have hL1 := lkL_succ cs ss k; rw [hcan] at hA1 hL1
    rw [Hky.out] at hL1
    have HA1 := Lib.hid hA1; have HL1 := Lib.hid hL1; have hlen := lkL_len cs ss k; clear hA1 hL1 hcan hr hx3 hex2 C hl10; cases r
    ·have c0 := cell_at h10 0 rfl
     have Hp3 := Lib.hid (show Plcd (fitL cs ss) ss.length cs.length w1.heap.size X2 X3 X5 X6 T H cs.length cs.length 82 #[.pointer (some ⟨w.heap.size + 1, 0, none⟩), .pointer (some ⟨w.heap.size, 0, none⟩)] w1 (lkA cs ss k) w3 from hp3)
     have Hown3 := Lib.hid hown3; have hi1 := HI.out; clear hp3 hown3; go_wp2_with (at_builtin; refine wpList_append_own _ rfl _ _ 39 rfl w2.heap.size 9 i0 (.string ⟨#[]⟩) 1 16 Tryz.underlying39 hi1 hz0 hz1 hz2 rfl (by decide) _ _ _ rfl (Hown3.out.alloc _) ⟨w3.heap.size, 0, none⟩ 1 1 [.string s.key] rfl rfl ?c1 ?c2 ?c3 ?c4 ?c5 ?_)
     case c1 => exact cells_new _ _ _
     case c2 => simp [Value.oneCell']
     case c3 => unfold maxLen; omega
     case c4 => omega
     case c5 => simp; omega
     intro v' w8 hown8 hgrow _; clear hi1 c0; go_wp2_with fail
     go_roundw
     case rel =>
      refine ⟨k + 1, by omega, by go_num, Lib.hid ?_, ?_, Lib.hid ?_⟩
      ·rw [HL1.out, if_neg (by simp), List.length_append, List.map_append]
       exact hown8
      ·have := hgrow.size; simp at this; omega
      ·rw [HA1.out, if_neg (by simp)]
       have hmm := Hmm.out; exact (Hp3.out.below HTH.out.1 (below_alloc w3 _)).grown (m := w2.heap.size) hgrow (fun r hr => (own_block Hown3.out r hr).1) ⟨hmm.1, hmm.2.1, hmm.2.2.1, hmm.2.2.2.1, hmm.2.2.2.2.1, hmm.2.2.2.2.2.1, hmm.2.2.2.2.2.2, by simp; omega⟩
     case measure => simp [intOf]; omega
    ·have Hown3 := Lib.hid hown3
     have Hp3 := Lib.hid hp3; clear hp3 hown3; go_wp2_with fail
     go_roundw
     case rel =>
      refine ⟨k + 1, by omega, by go_num, Lib.hid ?_, hsz3, Lib.hid ?_⟩
      ·rw [HL1.out, if_pos trivial, List.append_nil]; exact Hown3.out
      ·rw [HA1.out, if_pos trivial]; exact Hp3.out
     case measure => simp [intOf]; omega
   ·obtain rfl : k = ss.length := by omega
    have hst := strs_of_owns Hown.out (by have := lkL_len cs ss ss.length; omega)
    clear Hown; go_wp2_with fail
    go_ret2
    exact ⟨_, rfl, by rw [HR.out]; exact hst.mono (Nat.zero_le _), below_step (below_step HwW.out hb1) hb⟩
 ·have e1 : (E != 0) = true := by simp [hz]
  have hr : R = [] := by rw [HL.out, if_neg hz]
  clear hz; go_wp2_with fail
  go_ret2
  exact ⟨_, rfl, by rw [hr]; exact strs_nilF _ _, below_step HwW.out hb1⟩
end Go.Proofs.YtfcaokpadodijaaGreat
/- score.Can: whether some can be in slots all at once. -/
namespace Go.Proofs.YtfcaokpadodijaaGreat
open Go.RowKit Go.Proofs.YtfcaokpadodijaaGreat.Mat

/-- Name number a suits slot p. -/
def fitQ (cs : List ScD) (ss : List SlD) (ks : List ByteArray) (a p : Nat) : Bool := suitB (fndC cs (stAt ks a)) (slAt ss p)
theorem set_sc {w : World} {X : Nat} {a0 b0 c0 d0 e0 : Value} (h : w.heap[X]? = some (.cells #[a0, b0, c0, d0, e0] 77 (0, 0))) (a b c d e : Value) :
  ∃ W, ((((w.setCell ⟨X, 0, none⟩ a).setCell ⟨X, 1, none⟩ b).setCell ⟨X, 2, none⟩ c).setCell ⟨X, 3, none⟩ d).setCell ⟨X, 4, none⟩ e = W ∧ W.heap[X]? = some (.cells #[a, b, c, d, e] 77 (0, 0)) ∧ (∀ (lo T sz : Nat) (v : Value) (rows : List (List Value)), T ≠ 77 → Rows w T lo sz v rows → Rows W T lo sz v rows) ∧ ∀ (q : Nat) (w0 : World), q ≤ X → Below q w0 w → Below q w0 W := by
 have h1 := set_cells (o := 0) h a
 have h2 := set_cells (o := 1) h1 b
 have h3 := set_cells (o := 2) h2 c
 have h4 := set_cells (o := 3) h3 d
 have h5 := set_cells (o := 4) h4 e
 exact ⟨_, rfl, h5, fun lo T sz v rows hT hr => rows_far (rows_far (rows_far (rows_far (rows_far hr h (Ne.symm hT)) h1 (Ne.symm hT)) h2 (Ne.symm hT)) h3 (Ne.symm hT)) h4 (Ne.symm hT), fun q w0 hq hb => below_set5 hb hq a b c d e⟩
theorem sc_cells {w : World} {X : Nat} {a b c d e : Value} (h : w.heap[X]? = some (.cells #[a, b, c, d, e] 77 (0, 0))) : w.cell? ⟨X, 0, none⟩ = some a ∧ w.cell? ⟨X, 1, none⟩ = some b ∧ w.cell? ⟨X, 2, none⟩ = some c ∧ w.cell? ⟨X, 3, none⟩ = some d ∧ w.cell? ⟨X, 4, none⟩ = some e :=
 ⟨cell_at h 0 rfl, cell_at h 1 rfl, cell_at h 2 rfl, cell_at h 3 rfl, cell_at h 4 rfl⟩
def o81_1 : Array Go.Oper := #[
 ⟨some 11, .load 28 (.tmp 2), 28, "best.go:26", #[], none⟩,
 ⟨some 12, .load 39 (.tmp 3), 39, "best.go:26", #[], none⟩,
 ⟨some 13, .move (.tmp 0), 3, "best.go:26", #[], none⟩,
 ⟨some 14, .indexAddr 39 (.tmp 12) (.tmp 13), 0, "best.go:26", #[⟨1, .data⟩, ⟨2, .data⟩], none⟩,
 ⟨some 15, .load 9 (.tmp 14), 9, "best.go:26", #[⟨3, .data⟩], none⟩,
 ⟨some 16, .call { callee := .value (.func 49), args := #[.tmp 11, .tmp 15], argTypes := #[28, 9] }, 86, "best.go:26", #[⟨0, .data⟩, ⟨4, .data⟩], none⟩,
 ⟨some 10, .move (.tmp 16), 86, "best.go:26", #[⟨5, .data⟩], none⟩,
 ⟨some 17, .extract (.tmp 10) 0, 77, "best.go:26", #[⟨6, .data⟩], none⟩,
 ⟨some 18, .extract (.tmp 10) 1, 4, "best.go:26", #[⟨6, .data⟩, ⟨10, .gcOnly .lateStores⟩], none⟩,
 ⟨some 8, .alloc 77, 0, "best.go:26", #[], none⟩,
 ⟨none, .store 77 (.tmp 8) (.tmp 17), 0, "best.go:26", #[⟨9, .data⟩, ⟨7, .data⟩, ⟨5, .chain⟩, ⟨0, .phase⟩, ⟨1, .phase⟩, ⟨2, .phase⟩, ⟨3, .phase⟩, ⟨4, .phase⟩, ⟨5, .phase⟩, ⟨6, .phase⟩, ⟨7, .phase⟩, ⟨8, .textOnly .lateStores⟩, ⟨9, .phase⟩], none⟩,
 ⟨some 9, .assign (.tmp 18), 4, "best.go:26", #[⟨8, .data⟩, ⟨10, .chain⟩, ⟨0, .phase⟩, ⟨1, .phase⟩, ⟨2, .phase⟩, ⟨3, .phase⟩, ⟨4, .phase⟩, ⟨5, .phase⟩, ⟨6, .phase⟩, ⟨7, .phase⟩, ⟨8, .phase⟩, ⟨9, .phase⟩, ⟨10, .phase⟩], none⟩]
theorem o81_1_0 : o81_1[0]? = some (⟨some 11, .load 28 (.tmp 2), 28, "best.go:26", #[], none⟩ : Go.Oper) := rfl
theorem o81_1_1 : o81_1[1]? = some (⟨some 12, .load 39 (.tmp 3), 39, "best.go:26", #[], none⟩ : Go.Oper) := rfl
theorem o81_1_2 : o81_1[2]? = some (⟨some 13, .move (.tmp 0), 3, "best.go:26", #[], none⟩ : Go.Oper) := rfl
theorem o81_1_3 : o81_1[3]? = some (⟨some 14, .indexAddr 39 (.tmp 12) (.tmp 13), 0, "best.go:26", #[⟨1, .data⟩, ⟨2, .data⟩], none⟩ : Go.Oper) := rfl
theorem o81_1_4 : o81_1[4]? = some (⟨some 15, .load 9 (.tmp 14), 9, "best.go:26", #[⟨3, .data⟩], none⟩ : Go.Oper) := rfl
theorem o81_1_5 : o81_1[5]? = some (⟨some 16, .call { callee := .value (.func 49), args := #[.tmp 11, .tmp 15], argTypes := #[28, 9] }, 86, "best.go:26", #[⟨0, .data⟩, ⟨4, .data⟩], none⟩ : Go.Oper) := rfl
theorem o81_1_6 : o81_1[6]? = some (⟨some 10, .move (.tmp 16), 86, "best.go:26", #[⟨5, .data⟩], none⟩ : Go.Oper) := rfl
theorem o81_1_7 : o81_1[7]? = some (⟨some 17, .extract (.tmp 10) 0, 77, "best.go:26", #[⟨6, .data⟩], none⟩ : Go.Oper) := rfl
theorem o81_1_8 : o81_1[8]? = some (⟨some 18, .extract (.tmp 10) 1, 4, "best.go:26", #[⟨6, .data⟩, ⟨10, .gcOnly .lateStores⟩], none⟩ : Go.Oper) := rfl
theorem o81_1_9 : o81_1[9]? = some (⟨some 8, .alloc 77, 0, "best.go:26", #[], none⟩ : Go.Oper) := rfl
theorem o81_1_10 : o81_1[10]? = some (⟨none, .store 77 (.tmp 8) (.tmp 17), 0, "best.go:26", #[⟨9, .data⟩, ⟨7, .data⟩, ⟨5, .chain⟩, ⟨0, .phase⟩, ⟨1, .phase⟩, ⟨2, .phase⟩, ⟨3, .phase⟩, ⟨4, .phase⟩, ⟨5, .phase⟩, ⟨6, .phase⟩, ⟨7, .phase⟩, ⟨8, .textOnly .lateStores⟩, ⟨9, .phase⟩], none⟩ : Go.Oper) := rfl
theorem o81_1_11 : o81_1[11]? = some (⟨some 9, .assign (.tmp 18), 4, "best.go:26", #[⟨8, .data⟩, ⟨10, .chain⟩, ⟨0, .phase⟩, ⟨1, .phase⟩, ⟨2, .phase⟩, ⟨3, .phase⟩, ⟨4, .phase⟩, ⟨5, .phase⟩, ⟨6, .phase⟩, ⟨7, .phase⟩, ⟨8, .phase⟩, ⟨9, .phase⟩, ⟨10, .phase⟩], none⟩ : Go.Oper) := rfl
def o81_2 : Array Go.Oper := #[
 ⟨some 19, .load 77 (.tmp 8), 77, "best.go:27", #[], none⟩,
 ⟨some 20, .load 26 (.tmp 4), 26, "best.go:27", #[], none⟩,
 ⟨some 21, .move (.tmp 1), 3, "best.go:27", #[], none⟩,
 ⟨some 22, .indexAddr 26 (.tmp 20) (.tmp 21), 0, "best.go:27", #[⟨1, .data⟩, ⟨2, .data⟩], none⟩,
 ⟨some 23, .load 72 (.tmp 22), 72, "best.go:27", #[⟨3, .data⟩], none⟩,
 ⟨some 24, .call { callee := .value (.func 77), args := #[.tmp 19, .tmp 23], argTypes := #[77, 72] }, 4, "best.go:27", #[⟨0, .data⟩, ⟨4, .data⟩], none⟩,
 ⟨some 7, .assign (.tmp 24), 4, "best.go:27", #[⟨5, .data⟩, ⟨5, .chain⟩, ⟨0, .phase⟩, ⟨1, .phase⟩, ⟨2, .phase⟩, ⟨3, .phase⟩, ⟨4, .phase⟩, ⟨5, .phase⟩], none⟩]
theorem o81_2_0 : o81_2[0]? = some (⟨some 19, .load 77 (.tmp 8), 77, "best.go:27", #[], none⟩ : Go.Oper) := rfl
theorem o81_2_1 : o81_2[1]? = some (⟨some 20, .load 26 (.tmp 4), 26, "best.go:27", #[], none⟩ : Go.Oper) := rfl
theorem o81_2_2 : o81_2[2]? = some (⟨some 21, .move (.tmp 1), 3, "best.go:27", #[], none⟩ : Go.Oper) := rfl
theorem o81_2_3 : o81_2[3]? = some (⟨some 22, .indexAddr 26 (.tmp 20) (.tmp 21), 0, "best.go:27", #[⟨1, .data⟩, ⟨2, .data⟩], none⟩ : Go.Oper) := rfl
theorem o81_2_4 : o81_2[4]? = some (⟨some 23, .load 72 (.tmp 22), 72, "best.go:27", #[⟨3, .data⟩], none⟩ : Go.Oper) := rfl
theorem o81_2_5 : o81_2[5]? = some (⟨some 24, .call { callee := .value (.func 77), args := #[.tmp 19, .tmp 23], argTypes := #[77, 72] }, 4, "best.go:27", #[⟨0, .data⟩, ⟨4, .data⟩], none⟩ : Go.Oper) := rfl
theorem o81_2_6 : o81_2[6]? = some (⟨some 7, .assign (.tmp 24), 4, "best.go:27", #[⟨5, .data⟩, ⟨5, .chain⟩, ⟨0, .phase⟩, ⟨1, .phase⟩, ⟨2, .phase⟩, ⟨3, .phase⟩, ⟨4, .phase⟩, ⟨5, .phase⟩], none⟩ : Go.Oper) := rfl
theorem o81_2_ns : Go.Region.noSelect o81_2 = true := by kernel_rfl
set_option maxRecDepth 100000 in
set_option maxHeartbeats 8000000 in
theorem can1_calls (cs : List ScD) (ss : List SlD) (ks : List ByteArray) (lo lo' lo3 X2 X3 X4 a p : Nat) (u v z : Value) (w : World) (hS : Sls w lo u ss) (hC : Scs w lo' v cs) (hlo : lo' ≤ w.heap.size) (hK : Strs w lo3 z ks) (x2 : w.cell? ⟨X2, 0, none⟩ = some v) (x3 : w.cell? ⟨X3, 0, none⟩ = some z) (x4 : w.cell? ⟨X4, 0, none⟩ = some u) (ha : a < ks.length) (hp : p < ss.length) :
  Calls Tryz.prog 81 #[.int .i64 (a : Int), .int .i64 (p : Int), .pointer (some ⟨X2, 0, none⟩), .pointer (some ⟨X3, 0, none⟩), .pointer (some ⟨X4, 0, none⟩)] w (BoolIs (fitQ cs ss ks a p) w) := by
 have hk : ks[a]? = some ks[a] := List.getElem?_eq_getElem ha
 unfold fitQ
 rw [stAt_some hk]
 generalize ks[a] = k at hk
 have hs : ss[p]? = some ss[p] := List.getElem?_eq_getElem hp
 rw [slAt_some hs]
 generalize ss[p] = s at hs
 obtain ⟨sg, so, sk, rfl⟩ : ∃ sg so sk, u = .slice (some ⟨sg, so, none⟩) ss.length sk := by
  rcases NRows.at hS with ⟨_, rfl⟩ | ⟨g, off, cap, e, _⟩
  ·simp at hp
  ·exact ⟨g, off, cap, e⟩
 obtain ⟨kg, ko, kc, rfl, hkc⟩ : ∃ kg ko kc, z = .slice (some ⟨kg, ko, none⟩) ks.length kc ∧ w.cell? ⟨kg, ko + a, none⟩ = some (.string k) := by
  rcases strs_at hK with ⟨_, rfl⟩ | ⟨g, off, cap, e, _, _, _, hc⟩
  ·simp at ha
  ·exact ⟨g, off, cap, e, hc a k hk⟩
 obtain ⟨sx, slo, p0, p1, hsp⟩ := sls_fb hS p s hs
 obtain ⟨ra, rl, rc, rfl⟩ := strs_shapeN hsp
 have CF := Lib.hid (fun w' (hb : Below w.heap.size w w') => find_calls lo' v cs k w' (NRows.below hC hb) (by have := hb.size; omega))
 obtain ⟨la, lc, rfl⟩ := NRows.shape hC
 have ha' : (a : Int) < (ks.length : Int) := by omega
 have hp' : (p : Int) < (ss.length : Int) := by omega
 have HS := Lib.hid (show ∀ w', Below w.heap.size w w' → (w'.cell? ⟨X2, 0, none⟩ = some (.slice la cs.length lc) ∧ w'.cell? ⟨X3, 0, none⟩ = some (.slice (some ⟨kg, ko, none⟩) ks.length kc) ∧ w'.cell? ⟨kg, ko + a, none⟩ = some (.string k)) from fun w' hb => ⟨below_cell hb x2, below_cell hb x3, below_cell hb hkc⟩)
 have HT := Lib.hid (show ∀ w', Below w.heap.size w w' → (w'.cell? ⟨X4, 0, none⟩ = some (.slice (some ⟨sg, so, none⟩) ss.length sk) ∧ w'.cell? ⟨sg, so + p * 2, none⟩ = some (.string s.key) ∧ w'.cell? ⟨sg, so + p * 2 + 1, none⟩ = some (.slice ra rl rc)) from fun w' hb => ⟨below_cell hb x4, below_cell hb p0, below_cell hb p1⟩)
 have Hsp := Lib.hid (fun w' (hb : Below w.heap.size w w') => hsp.below hb)
 have hbc := (Below.refl w.heap.size w).drew
 generalize fndC cs k = c at CF ⊢
 clear hS hC hK x2 x3 x4 p0 p1 hkc hs hk hsp
 go_enter Tryz.func81, Tryz.ntmps81
 go_upto_region 1 with fail
 have hC := HS.out _ hbc
 show Code.wp _ (Code.region 1 o81_1 true) _ _ _
 refine regionC_start 12 (fun w' => w'.cell? ⟨X2, 0, none⟩ = some (.slice la cs.length lc) ∧ w'.cell? ⟨X3, 0, none⟩ = some (.slice (some ⟨kg, ko, none⟩) ks.length kc) ∧ w'.cell? ⟨kg, ko + a, none⟩ = some (.string k)) (fun j => [0, 1, 3, 4, 5, 9].contains j) (by kernel_rfl) rfl ?_
 clear hC
 generalize w.drew = W0 at hbc ⊢
 have hC := HS.out _ hbc
 apply shareP (C := fun (pa : Option Addr) (pl pc X8 : Nat) (W : World) => W.heap[X8]? = some (.cells #[.string ⟨#[]⟩, .slice none 0 0, .int .i64 0, .int .i64 0, .bool false] 77 (0, 0)) ∧ Strs W lo' (.slice pa pl pc) c.pos ∧ Below w.heap.size w W ∧ w.heap.size ≤ X8)
 ·intro tail
  refine takeC 2 13 (v := ?_) o81_1_2 rfl (by kernel_rfl) (by kernel_rfl) (by kernel_rfl) (by rfl) (fun _ _ _ h => h) (by rfl) ?y2_1 ?_
  case y2_1 => intro w; go_simp; try with_reducible rfl
  simp only [sE0, sE1]; refine loadC 0 11 (v := ?_) o81_1_0 rfl (by kernel_rfl) (by kernel_rfl) (by kernel_rfl) (by kernel_rfl) (fun _ _ _ h => h) (by rfl) ?y0_2 (by exact hC) ?_
  case y0_2 => intro w h; (try dsimp only at h); go_simp; try with_reducible rfl
  simp only [sE0, sE1]; refine loadC 1 12 (v := ?_) o81_1_1 rfl (by kernel_rfl) (by kernel_rfl) (by kernel_rfl) (by kernel_rfl) (fun _ _ _ h => h) (by rfl) ?y1_3 (by exact hC) ?_
  case y1_3 => intro w h; (try dsimp only at h); go_simp; try with_reducible rfl
  simp only [sE0, sE1]; refine loadC 3 14 (v := ?_) o81_1_3 rfl (by kernel_rfl) (by kernel_rfl) (by kernel_rfl) (by kernel_rfl) (fun _ _ _ h => h) (by rfl) ?y3_4 (by exact hC) ?_
  case y3_4 => intro w h; (try dsimp only at h); go_simp; try with_reducible rfl
  simp only [sE0, sE1]; refine loadC 4 15 (v := ?_) o81_1_4 rfl (by kernel_rfl) (by kernel_rfl) (by kernel_rfl) (by kernel_rfl) (fun _ _ _ h => h) (by rfl) ?y4_5 (by exact hC) ?_
  case y4_5 => intro w h; (try dsimp only at h); go_simp; try with_reducible rfl
  simp only [sE0, sE1]; refine readyC (rs := [5, 9]) (by kernel_rfl) (by simp) (each_cons (runC o81_1_5 (by rfl) (fun K hK => ?_)) (each_cons (runC o81_1_9 (by rfl) (fun K hK => ?_)) each_nil))
  ·go_simp
   refine (CF.out _ hbc).mono ?_; rintro e w2 ⟨x, rfl, hx, hb2⟩; obtain ⟨pa, pl, pc, rfl⟩ := strs_shapeN hx; have HP := Lib.hid hx; try replace h8 := keep_heap h8 hb2
   replace hbc := below_step hbc hb2; replace hC := HS.out _ hbc; clear hx hb2; go_wp2_with fail
   refine hK.out _ _ (fun _ => ?_) ?_
   ·(exact hC)
   clear hK K; try simp only [Act.put, sEt, sE0, sE1]
   refine takeC 6 10 (v := ?_) o81_1_6 rfl (by kernel_rfl) (by kernel_rfl) (by kernel_rfl) (by rfl) (fun _ _ _ h => h) (by rfl) ?y6_6 ?_
   case y6_6 => intro w; go_simp; try with_reducible rfl
   simp only [sE0, sE1]; refine takeC 7 17 (v := ?_) o81_1_7 rfl (by kernel_rfl) (by kernel_rfl) (by kernel_rfl) (by rfl) (fun _ _ _ h => h) (by rfl) ?y7_7 ?_
   case y7_7 => intro w; go_simp; try with_reducible rfl
   simp only [sE0, sE1]; refine takeC 8 18 (v := ?_) o81_1_8 rfl (by kernel_rfl) (by kernel_rfl) (by kernel_rfl) (by rfl) (fun _ _ _ h => h) (by rfl) ?y8_8 ?_
   case y8_8 => intro w; go_simp; try with_reducible rfl
   simp only [sE0, sE1]; refine readyC (rs := [9]) (by kernel_rfl) (by simp) (each_cons (runC o81_1_9 (by rfl) (fun K hK => ?_)) each_nil)
   go_simp; obtain ⟨X8, W8, e8, f8, h8, hb8⟩ := any_box _ (.cells #[.string ⟨#[]⟩, .slice none 0 0, .int .i64 0, .int .i64 0, .bool false] 77); rw [f8, e8]; clear f8; have z8 : w.heap.size ≤ X8 := by have := hbc.size; omega
   try replace HP := Lib.hid (HP.out.below hb8)
   replace hbc := below_step hbc hb8; replace hC := HS.out _ hbc; clear e8 hb8; go_wp2_with fail
   refine hK.out _ _ (fun _ => ?_) ?_
   ·(exact hC)
   clear hK K; try simp only [Act.put, sEt, sE0, sE1]
   refine sameC (l' := (bQ 12 1023)) (by kernel_rfl) ?_
   first | exact tail pa pl pc X8 w2 ⟨h8, HP.out, hbc, z8⟩ | exact tail pa pl pc X8 W8 ⟨h8, HP.out, hbc, z8⟩
  ·go_simp
   obtain ⟨X8, W8, e8, f8, h8, hb8⟩ := any_box _ (.cells #[.string ⟨#[]⟩, .slice none 0 0, .int .i64 0, .int .i64 0, .bool false] 77); rw [f8, e8]; clear f8; have z8 : w.heap.size ≤ X8 := by have := hbc.size; omega
   try replace HP := Lib.hid (HP.out.below hb8)
   replace hbc := below_step hbc hb8; replace hC := HS.out _ hbc; clear e8 hb8; go_wp2_with fail
   refine hK.out _ _ (fun _ => ?_) ?_
   ·(exact hC)
   clear hK K; try simp only [Act.put, sEt, sE0, sE1]
   refine readyC (rs := [5]) (by kernel_rfl) (by simp) (each_cons (runC o81_1_5 (by rfl) (fun K hK => ?_)) each_nil)
   go_simp; refine (CF.out _ hbc).mono ?_; rintro e w2 ⟨x, rfl, hx, hb2⟩; obtain ⟨pa, pl, pc, rfl⟩ := strs_shapeN hx; have HP := Lib.hid hx; try replace h8 := keep_heap h8 hb2
   replace hbc := below_step hbc hb2; replace hC := HS.out _ hbc; clear hx hb2; go_wp2_with fail
   refine hK.out _ _ (fun _ => ?_) ?_
   ·(exact hC)
   clear hK K; try simp only [Act.put, sEt, sE0, sE1]
   refine takeC 6 10 (v := ?_) o81_1_6 rfl (by kernel_rfl) (by kernel_rfl) (by kernel_rfl) (by rfl) (fun _ _ _ h => h) (by rfl) ?y6_9 ?_
   case y6_9 => intro w; go_simp; try with_reducible rfl
   simp only [sE0, sE1]; refine takeC 7 17 (v := ?_) o81_1_7 rfl (by kernel_rfl) (by kernel_rfl) (by kernel_rfl) (by rfl) (fun _ _ _ h => h) (by rfl) ?y7_10 ?_
   case y7_10 => intro w; go_simp; try with_reducible rfl
   simp only [sE0, sE1]; refine takeC 8 18 (v := ?_) o81_1_8 rfl (by kernel_rfl) (by kernel_rfl) (by kernel_rfl) (by rfl) (fun _ _ _ h => h) (by rfl) ?y8_11 ?_
   case y8_11 => intro w; go_simp; try with_reducible rfl
   simp only [sE0, sE1]; refine sameC (l' := (bQ 12 1023)) (by kernel_rfl) ?_
   first | exact tail pa pl pc X8 w2 ⟨h8, HP.out, hbc, z8⟩ | exact tail pa pl pc X8 W8 ⟨h8, HP.out, hbc, z8⟩
 ·intro pa pl pc X8 W ⟨h8, hpos, hbc, z8⟩
  have HP := Lib.hid hpos; clear hpos; refine readyC (rs := [10]) (by kernel_rfl) (by simp) (each_cons (runC o81_1_10 (by rfl) (fun K hK => ?_)) each_nil)
  obtain ⟨z0, z1, z2, z3, z4⟩ := sc_cells h8; have f0 := free_of h8 0; have f1 := free_of h8 1; have f2 := free_of h8 2; have f3 := free_of h8 3; have f4 := free_of h8 4; go_simp; obtain ⟨V, eV, h8n, hr, hbV⟩ := set_sc h8 (.string c.who) (.slice pa pl pc) (.int .i64 c.num) (.int .i64 c.den) (.bool c.played); rw [eV]; replace HP := Lib.hid (hr _ _ _ _ _ (by decide) HP.out)
  replace hbc := hbV _ _ z8 hbc; replace h8 := h8n; clear eV h8n hr hbV z0 z1 z2 z3 z4 f0 f1 f2 f3 f4; refine hK.out _ _ (fun h => absurd h (by decide)) ?_
  clear hK K; try simp only [sEt, sE0, sE1]
  refine takeC 11 9 (v := ?_) o81_1_11 rfl (by kernel_rfl) (by kernel_rfl) (by kernel_rfl) (by rfl) (fun _ _ _ h => h) (by rfl) ?y11_12 ?_
  case y11_12 => intro w; go_simp; try with_reducible rfl
  simp only [sE0, sE1]; refine doneC (by kernel_rfl) ?_ _
  go_upto_region 2 with fail
  have h8d : V.drew.heap[X8]? = _ := h8
  have HPd := Lib.hid (Strs.below HP.out ((Below.refl V.heap.size V).drew)); have hbd := hbc.drew; have HQ := Lib.hid (show ∀ w', Below V.drew.heap.size V.drew w' → (Below w.heap.size w w' ∧ (w'.cell? ⟨X4, 0, none⟩ = some (.slice (some ⟨sg, so, none⟩) ss.length sk) ∧ w'.cell? ⟨sg, so + p * 2, none⟩ = some (.string s.key) ∧ w'.cell? ⟨sg, so + p * 2 + 1, none⟩ = some (.slice ra rl rc)) ∧ w'.cell? ⟨X8, 0, none⟩ = some (.string c.who) ∧ w'.cell? ⟨X8, 1, none⟩ = some (.slice pa pl pc) ∧ w'.cell? ⟨X8, 2, none⟩ = some (.int .i64 c.num) ∧ w'.cell? ⟨X8, 3, none⟩ = some (.int .i64 c.den) ∧ w'.cell? ⟨X8, 4, none⟩ = some (.bool c.played)) from fun w' hb => ⟨below_step hbd hb, HT.out w' (below_step hbd hb), sc_cells (keep_heap h8d hb)⟩)
  have hb9 := Below.refl V.drew.heap.size V.drew; show Code.wp _ (Code.region 2 o81_2 true) _ _ _
  refine region_start 7 (fun w' => Below w.heap.size w w' ∧ (w'.cell? ⟨X4, 0, none⟩ = some (.slice (some ⟨sg, so, none⟩) ss.length sk) ∧ w'.cell? ⟨sg, so + p * 2, none⟩ = some (.string s.key) ∧ w'.cell? ⟨sg, so + p * 2 + 1, none⟩ = some (.slice ra rl rc)) ∧ w'.cell? ⟨X8, 0, none⟩ = some (.string c.who) ∧ w'.cell? ⟨X8, 1, none⟩ = some (.slice pa pl pc) ∧ w'.cell? ⟨X8, 2, none⟩ = some (.int .i64 c.num) ∧ w'.cell? ⟨X8, 3, none⟩ = some (.int .i64 c.den) ∧ w'.cell? ⟨X8, 4, none⟩ = some (.bool c.played)) (by kernel_rfl) rfl ?_ (fun hHeld => ?_)
  ·(exact HQ.out _ (by assumption))
  refine take_to 0 19 #[true, false, false, false, false, false, false] (v := ?_) o81_2_0 rfl o81_2_ns (by kernel_rfl) (by kernel_rfl) (fun _ _ _ h => h) (by rfl) ?y0 (by assumption) ?_
  case y0 => intro w h; (try dsimp only at h); go_simp; try with_reducible rfl
  simp only [sE0, sE1]; refine take_to 1 20 #[true, true, false, false, false, false, false] (v := ?_) o81_2_1 rfl o81_2_ns (by kernel_rfl) (by kernel_rfl) (fun _ _ _ h => h) (by rfl) ?y1 (by assumption) ?_
  case y1 => intro w h; (try dsimp only at h); go_simp; try with_reducible rfl
  simp only [sE0, sE1]; refine take_to 2 21 #[true, true, true, false, false, false, false] (v := ?_) o81_2_2 rfl o81_2_ns (by kernel_rfl) (by kernel_rfl) (fun _ _ _ h => h) (by rfl) ?y2 (by assumption) ?_
  case y2 => intro w h; (try dsimp only at h); go_simp; try with_reducible rfl
  simp only [sE0, sE1]; refine take_to 3 22 #[true, true, true, true, false, false, false] (v := ?_) o81_2_3 rfl o81_2_ns (by kernel_rfl) (by kernel_rfl) (fun _ _ _ h => h) (by rfl) ?y3 (by assumption) ?_
  case y3 => intro w h; (try dsimp only at h); go_simp; try with_reducible rfl
  simp only [sE0, sE1]; refine take_to 4 23 #[true, true, true, true, true, false, false] (v := ?_) o81_2_4 rfl o81_2_ns (by kernel_rfl) (by kernel_rfl) (fun _ _ _ h => h) (by rfl) ?y4 (by assumption) ?_
  case y4 => intro w h; (try dsimp only at h); go_simp; try with_reducible rfl
  simp only [sE0, sE1]; refine run_to 5 #[true, true, true, true, true, true, false] o81_2_5 (by kernel_rfl) (by kernel_rfl) (by rfl) (fun K hK => ?_)
  go_simp; refine (suits_calls _ _ _ _ c s _ HPd.out (Hsp.out _ hbd)).mono ?_; rintro e w3 ⟨rfl, hb3⟩; go_wp2_with fail
  refine hK.out _ _ ?_ (fun hHeld => ?_)
  ·(exact HQ.out _ (by assumption))
  clear hK K; try simp only [Act.put, sEt, sE0, sE1]
  refine take_to 6 7 #[true, true, true, true, true, true, true] (v := ?_) o81_2_6 rfl o81_2_ns (by kernel_rfl) (by kernel_rfl) (fun _ _ _ h => h) (by rfl) ?y6 (by assumption) ?_
  case y6 => intro w h; (try dsimp only at h); go_simp; try with_reducible rfl
  simp only [sE0, sE1]; refine wpAnyH_done (by kernel_rfl) ?_ _
  have hbe := hHeld.1; clear hHeld HQ HS HT; go_wp2_with fail
  go_ret
  exact ⟨rfl, hbe⟩
/-- Can all of the first k names be placed? -/
noncomputable def canL (cs : List ScD) (ss : List SlD) (ks : List ByteArray) (k : Nat) : Bool := canP (fitQ cs ss ks) ss.length (List.range k).reverse
/-- What is wrong with names. -/
def whE (ss : List SlD) (cs : List ScD) (ks : List ByteArray) : Int := firstE [sdE ss cs, wnE cs [] ks]
noncomputable def canB (ss : List SlD) (cs : List ScD) (ks : List ByteArray) : Bool := decide (whE ss cs ks = 0) && canL cs ss ks ks.length
theorem range_rev (k : Nat) : (List.range (k + 1)).reverse = k :: (List.range k).reverse := by rw [List.range_succ, List.reverse_append]; rfl
theorem canL_le (cs : List ScD) (ss : List SlD) (ks : List ByteArray) {k n : Nat} (h : k ≤ n) (hc : canL cs ss ks k = false) : canL cs ss ks n = false := by
 unfold canL at *
 cases hx : canP (fitQ cs ss ks) ss.length (List.range n).reverse with
 | false => rfl
 | true =>
  obtain ⟨f, f1, f2⟩ := (canP_iff _ _ _).1 hx; have : canP (fitQ cs ss ks) ss.length (List.range k).reverse = true := (canP_iff _ _ _).2 ⟨f, fun a ha => f1 a (by simp at ha ⊢; omega), fun a ha b hb => f2 a (by simp at ha ⊢; omega) b (by simp at hb ⊢; omega)⟩
  rw [this] at hc; cases hc
/-- What Can answers. -/
def CanV (ss : List SlD) (cs : List ScD) (ks : List ByteArray) (w : World) (e : Ending) (w' : World) : Prop := e = .returned (.tuple #[.bool (canB ss cs ks), .int .i64 (whE ss cs ks)]) ∧ Below w.heap.size w w'
def o30_1 : Array Go.Oper := #[
 ⟨some 11, .load 26 (.tmp 3), 26, "best.go:22", #[], none⟩,
 ⟨some 12, .load 28 (.tmp 4), 28, "best.go:22", #[], none⟩,
 ⟨some 13, .call { callee := .value (.func 75), args := #[.tmp 11, .tmp 12], argTypes := #[26, 28] }, 35, "best.go:22", #[⟨0, .data⟩, ⟨1, .data⟩], none⟩,
 ⟨some 14, .load 28 (.tmp 4), 28, "best.go:22", #[], none⟩,
 ⟨some 15, .load 39 (.tmp 5), 39, "best.go:22", #[], none⟩,
 ⟨some 16, .call { callee := .value (.func 79), args := #[.tmp 14, .const (.slice none 0 0), .tmp 15], argTypes := #[28, 30, 39] }, 35, "best.go:22", #[⟨3, .data⟩, ⟨4, .data⟩, ⟨2, .chain⟩], none⟩,
 ⟨some 17, .buildSlice 90 2 #[(0, .tmp 13), (1, .tmp 16)], 90, "best.go:22", #[⟨2, .data⟩, ⟨5, .data⟩], none⟩,
 ⟨some 18, .call { callee := .value (.func 46), args := #[.tmp 17], argTypes := #[90] }, 35, "best.go:22", #[⟨6, .data⟩, ⟨5, .chain⟩], none⟩,
 ⟨some 8, .assign (.tmp 18), 35, "best.go:22", #[⟨7, .data⟩, ⟨7, .chain⟩, ⟨0, .phase⟩, ⟨1, .phase⟩, ⟨2, .phase⟩, ⟨3, .phase⟩, ⟨4, .phase⟩, ⟨5, .phase⟩, ⟨6, .phase⟩, ⟨7, .phase⟩], none⟩]
theorem o30_1_0 : o30_1[0]? = some (⟨some 11, .load 26 (.tmp 3), 26, "best.go:22", #[], none⟩ : Go.Oper) := rfl
theorem o30_1_1 : o30_1[1]? = some (⟨some 12, .load 28 (.tmp 4), 28, "best.go:22", #[], none⟩ : Go.Oper) := rfl
theorem o30_1_2 : o30_1[2]? = some (⟨some 13, .call { callee := .value (.func 75), args := #[.tmp 11, .tmp 12], argTypes := #[26, 28] }, 35, "best.go:22", #[⟨0, .data⟩, ⟨1, .data⟩], none⟩ : Go.Oper) := rfl
theorem o30_1_3 : o30_1[3]? = some (⟨some 14, .load 28 (.tmp 4), 28, "best.go:22", #[], none⟩ : Go.Oper) := rfl
theorem o30_1_4 : o30_1[4]? = some (⟨some 15, .load 39 (.tmp 5), 39, "best.go:22", #[], none⟩ : Go.Oper) := rfl
theorem o30_1_5 : o30_1[5]? = some (⟨some 16, .call { callee := .value (.func 79), args := #[.tmp 14, .const (.slice none 0 0), .tmp 15], argTypes := #[28, 30, 39] }, 35, "best.go:22", #[⟨3, .data⟩, ⟨4, .data⟩, ⟨2, .chain⟩], none⟩ : Go.Oper) := rfl
theorem o30_1_6 : o30_1[6]? = some (⟨some 17, .buildSlice 90 2 #[(0, .tmp 13), (1, .tmp 16)], 90, "best.go:22", #[⟨2, .data⟩, ⟨5, .data⟩], none⟩ : Go.Oper) := rfl
theorem o30_1_7 : o30_1[7]? = some (⟨some 18, .call { callee := .value (.func 46), args := #[.tmp 17], argTypes := #[90] }, 35, "best.go:22", #[⟨6, .data⟩, ⟨5, .chain⟩], none⟩ : Go.Oper) := rfl
theorem o30_1_8 : o30_1[8]? = some (⟨some 8, .assign (.tmp 18), 35, "best.go:22", #[⟨7, .data⟩, ⟨7, .chain⟩, ⟨0, .phase⟩, ⟨1, .phase⟩, ⟨2, .phase⟩, ⟨3, .phase⟩, ⟨4, .phase⟩, ⟨5, .phase⟩, ⟨6, .phase⟩, ⟨7, .phase⟩], none⟩ : Go.Oper) := rfl
theorem o30_1_ns : Go.Region.noSelect o30_1 = true := by kernel_rfl
set_option maxRecDepth 100000 in
set_option maxHeartbeats 8000000 in
theorem scoreCan_calls (lo lo' lo3 : Nat) (v u z : Value) (ss : List SlD) (cs : List ScD) (ks : List ByteArray) (w : World) (hS : Sls w lo' v ss) (hs : ∀ c ∈ ss, SmallSl c) (hsn : ss.length ≤ 1000) (hC : Scs w lo u cs) (hc : ∀ c ∈ cs, SmallSc c) (hn : cs.length ≤ 1000) (hlo : lo ≤ w.heap.size) (hK : Strs w lo3 z ks) (hkn : ks.length ≤ 1000) :
  Calls Tryz.prog 30 #[v, u, z] w (CanV ss cs ks w) := by
 obtain ⟨W, hW⟩ : ∃ W, W = ((w.alloc (.cells #[v] 26)).alloc (.cells #[u] 28)).alloc (.cells #[z] 39) := ⟨_, rfl⟩
 have hwW : Below w.heap.size w W := by rw [hW]; exact ((below_alloc w _).trans ((below_alloc _ _).mono (by simp))).trans ((below_alloc _ _).mono (by simp; omega))
 have y0 : W.heap[w.heap.size]? = some (.cells #[v] 26 (0, 0)) := by rw [hW]; exact heap_al (heap_al (heap_alloc_new w _) _) _
 have y1 : W.heap[w.heap.size + 1]? = some (.cells #[u] 28 (0, 0)) := by
  have := heap_alloc_new (w.alloc (.cells #[v] 26)) (.cells #[u] 28)
  rw [World.size_alloc] at this
  rw [hW]; exact heap_al this _
 have y2 : W.heap[w.heap.size + 2]? = some (.cells #[z] 39 (0, 0)) := by
  have := heap_alloc_new ((w.alloc (.cells #[v] 26)).alloc (.cells #[u] 28)) (.cells #[z] 39)
  rw [World.size_alloc, World.size_alloc] at this
  rw [hW]; exact this
 have C1 := Lib.hid (fun V (hb : Below W.heap.size W V) => wrongSides_calls lo' lo v u ss cs V (NRows.below (NRows.below hS hwW) hb) hs (by omega) (NRows.below (NRows.below hC hwW) hb) hc (by omega))
 have C2 := Lib.hid (fun V (hb : Below W.heap.size W V) => wrongNames_calls lo lo3 0 u (.slice none 0 0) z cs [] ks V (NRows.below (NRows.below hC hwW) hb) (by have := hwW.size; have := hb.size; omega) (fis_nil _ _) ((hK.below hwW).below hb) (by omega))
 have HF := Lib.hid (fun (V : World) (hb : Below W.heap.size W V) (i k : Nat) (hi : i < ks.length) (hk : k < ss.length) => can1_calls cs ss ks lo' lo lo3 (w.heap.size + 1) (w.heap.size + 1 + 1) w.heap.size i k v u z V (NRows.below (NRows.below hS hwW) hb) (NRows.below (NRows.below hC hwW) hb) (by have := hwW.size; have := hb.size; omega) ((hK.below hwW).below hb) (below_cell hb (cell_at y1 0 rfl)) (below_cell hb (cell_at y2 0 rfl)) (below_cell hb (cell_at y0 0 rfl)) hi hk)
 obtain ⟨a, c, rfl⟩ := NRows.shape hC
 obtain ⟨a2, c2, rfl⟩ := NRows.shape hS
 obtain ⟨a3, c3, rfl⟩ := strs_shape hK
 have HS := Lib.hid (show ∀ w', Below W.heap.size W w' → (Below W.heap.size W w' ∧ w'.cell? ⟨w.heap.size, 0, none⟩ = some (.slice a2 ss.length c2) ∧ w'.cell? ⟨w.heap.size + 1, 0, none⟩ = some (.slice a cs.length c) ∧ w'.cell? ⟨w.heap.size + 2, 0, none⟩ = some (.slice a3 ks.length c3)) from fun w' hb => ⟨hb, below_cell hb (cell_at y0 0 rfl), below_cell hb (cell_at y1 0 rfl), below_cell hb (cell_at y2 0 rfl)⟩)
 have HwW := Lib.hid hwW
 have HB := Lib.hid (show canB ss cs ks = (decide (whE ss cs ks = 0) && canL cs ss ks ks.length) from rfl)
 have HE := Lib.hid (show firstE [sdE ss cs, wnE cs [] ks] = whE ss cs ks from rfl)
 unfold CanV
 generalize canB ss cs ks = R at HB ⊢
 generalize whE ss cs ks = E at HB HE ⊢
 generalize sdE ss cs = E1 at C1 HE
 generalize wnE cs [] ks = E2 at C2 HE
 have hb0 := (Below.refl W.heap.size W).drew
 clear hS hs hC hc hwW y0 y1 y2 hK
 go_enter Tryz.func30, Tryz.ntmps30
 go_upto_region 1 with fail
 rw [← hW]
 clear hW
 show Code.wp _ (Code.region 1 o30_1 true) _ _ _
 refine region_start 9 (fun w' => Below W.heap.size W w' ∧ w'.cell? ⟨w.heap.size, 0, none⟩ = some (.slice a2 ss.length c2) ∧ w'.cell? ⟨w.heap.size + 1, 0, none⟩ = some (.slice a cs.length c) ∧ w'.cell? ⟨w.heap.size + 2, 0, none⟩ = some (.slice a3 ks.length c3)) (by kernel_rfl) rfl ?_ (fun hHeld => ?_)
 ·(exact HS.out _ (by first | assumption | exact hHeld.1 | exact below_step hHeld.1 (by first | assumption | exact below_alloc _ _)))
 refine take_to 0 11 (bQ 9 1) (v := ?_) o30_1_0 rfl o30_1_ns (by kernel_rfl) (by kernel_rfl) (fun _ _ _ h => h) (by rfl) ?y0g (by assumption) ?_
 case y0g => intro w h; (try dsimp only at h); go_simp; try with_reducible rfl
 simp only [sE0, sE1]
 refine take_to 1 12 (bQ 9 3) (v := ?_) o30_1_1 rfl o30_1_ns (by kernel_rfl) (by kernel_rfl) (fun _ _ _ h => h) (by rfl) ?y1g (by assumption) ?_
 case y1g => intro w h; (try dsimp only at h); go_simp; try with_reducible rfl
 simp only [sE0, sE1]
 refine take_to 3 14 (bQ 9 11) (v := ?_) o30_1_3 rfl o30_1_ns (by kernel_rfl) (by kernel_rfl) (fun _ _ _ h => h) (by rfl) ?y3g (by assumption) ?_
 case y3g => intro w h; (try dsimp only at h); go_simp; try with_reducible rfl
 simp only [sE0, sE1]
 refine take_to 4 15 (bQ 9 27) (v := ?_) o30_1_4 rfl o30_1_ns (by kernel_rfl) (by kernel_rfl) (fun _ _ _ h => h) (by rfl) ?y4g (by assumption) ?_
 case y4g => intro w h; (try dsimp only at h); go_simp; try with_reducible rfl
 simp only [sE0, sE1]
 refine run_to 2 (bQ 9 31) o30_1_2 (by kernel_rfl) (by kernel_rfl) (by rfl) (fun K hK => ?_)
 go_simp
 refine (C1.out _ hHeld.1).mono ?_
 rintro e w' ⟨rfl, hb⟩
 go_wp2_with fail
 refine hK.out _ _ ?_ (fun hHeld => ?_)
 ·(exact HS.out _ (by first | assumption | exact hHeld.1 | exact below_step hHeld.1 (by first | assumption | exact below_alloc _ _)))
 clear hK K
 try simp only [Act.put, sEt, sE0, sE1]
 refine run_to 5 (bQ 9 63) o30_1_5 (by kernel_rfl) (by kernel_rfl) (by rfl) (fun K hK => ?_)
 go_simp
 refine (C2.out _ hHeld.1).mono ?_
 rintro e w' ⟨rfl, hb⟩
 go_wp2_with fail
 refine hK.out _ _ ?_ (fun hHeld => ?_)
 ·(exact HS.out _ (by first | assumption | exact hHeld.1 | exact below_step hHeld.1 (by first | assumption | exact below_alloc _ _)))
 clear hK K
 try simp only [Act.put, sEt, sE0, sE1]
 refine run_to 6 (bQ 9 127) o30_1_6 (by kernel_rfl) (by kernel_rfl) (by rfl) (fun K hK => ?_)
 go_simp
 refine hK.out _ _ ?_ (fun hHeld => ?_)
 ·(exact HS.out _ (by first | assumption | exact hHeld.1 | exact below_step hHeld.1 (by first | assumption | exact below_alloc _ _)))
 clear hK K
 try simp only [Act.put, sEt, sE0, sE1]
 refine run_to 7 (bQ 9 255) o30_1_7 (by kernel_rfl) (by kernel_rfl) (by rfl) (fun K hK => ?_)
 go_simp
 refine (orE_calls _ 0 2 [E1, E2] _ (by simp) (by exact nums2 _ _ _ _)).mono ?_
 rintro e w' ⟨rfl, rfl⟩
 rw [HE.out]
 go_wp2_with fail
 refine hK.out _ _ ?_ (fun hHeld => ?_)
 ·(exact HS.out _ (by first | assumption | exact hHeld.1 | exact below_step hHeld.1 (by first | assumption | exact below_alloc _ _)))
 clear hK K
 try simp only [Act.put, sEt, sE0, sE1]
 refine take_to 8 8 (bQ 9 511) (v := ?_) o30_1_8 rfl o30_1_ns (by kernel_rfl) (by kernel_rfl) (fun _ _ _ h => h) (by rfl) ?y8g (by assumption) ?_
 case y8g => intro w h; (try dsimp only at h); go_simp; try with_reducible rfl
 simp only [sE0, sE1]
 refine wpAnyH_done (by kernel_rfl) ?_ _
 have hb1 := hHeld.1
 clear hHeld C1 C2 hb0
 generalize hWx : w'.alloc (.cells #[.int .i64 E1, .int .i64 E2] 35) = wx at hb1 ⊢
 clear hWx
 by_cases hz : E = 0
 ·subst hz
  have HR := Lib.hid (show R = canL cs ss ks ks.length by rw [HB.out]; simp)
  clear HB; obtain ⟨-, x0, x1, x2⟩ := HS.out _ hb1; have CP := Lib.hid (placing_calls (fitQ cs ss ks) ks.length ss.length 81 #[.pointer (some ⟨w.heap.size + 1, 0, none⟩), .pointer (some ⟨w.heap.size + 1 + 1, 0, none⟩), .pointer (some ⟨w.heap.size, 0, none⟩)] wx hsn); have egf : ∀ args w, (callFunc 81 args).run Tryz.prog w = .ok (.enter 81 args) w := by intro args w; go_simp
  have CQ := Lib.hid (fun X2 X3 X5 X6 T H hT hX A who V hw hA hp => place_calls (fitQ cs ss ks) ks.length ss.length wx.heap.size X2 X3 X5 X6 T H ss.length ss.length 81 #[.pointer (some ⟨w.heap.size + 1, 0, none⟩), .pointer (some ⟨w.heap.size + 1 + 1, 0, none⟩), .pointer (some ⟨w.heap.size, 0, none⟩)] wx hsn (by omega) hT hX (fun V' i k hi hk hb => HF.out V' (below_step hb1 hb) i k hi hk) egf A who V hw hA hp)
  clear egf; go_wp2_with fail
  refine CP.out.mono ?_; rintro e w2 ⟨X2, X3, X5, X6, T, H, rfl, hTH, hX, hpl⟩; have Hp := Lib.hid hpl; have hb2 := hpl.choose_spec.2.2.2; have CR := Lib.hid (fun A who V hw hA hp => CQ.out X2 X3 X5 X6 T H hTH hX A who V hw hA hp)
  obtain ⟨-, z0, z1, z2⟩ := HS.out w2 (below_step hb1 hb2); clear CP CQ hTH hX hpl x0 x1 x2; go_wp2_with fail
  clear z0 z1 z2; go_loopw [28] (fun idx wr => ∃ k : Nat, k ≤ ks.length ∧ idx = .int .i64 (k : Int) ∧ Hid (canL cs ss ks k = true) ∧ Hid (Plcd (fitQ cs ss ks) ks.length ss.length wx.heap.size X2 X3 X5 X6 T H ss.length ss.length 81 #[.pointer (some ⟨w.heap.size + 1, 0, none⟩), .pointer (some ⟨w.heap.size + 1 + 1, 0, none⟩), .pointer (some ⟨w.heap.size, 0, none⟩)] wx (List.range k).reverse wr)) (fun idx _ => ks.length - (intOf idx).toNat)
  case atStart => exact ⟨0, Nat.zero_le _, rfl, Lib.hid ((canP_iff _ _ _).2 ⟨fun _ => 0, (fun a ha => by cases ha), fun a ha => by cases ha⟩), Hp⟩
  case round =>
   clear Hp hb2; obtain ⟨k, hk, rfl, Hcan, Hp⟩ := hrel; have hb := Hp.out.choose_spec.2.2.2; by_cases hlt : k < ks.length
   ·have hlt' : (k : Int) < (ks.length : Int) := by omega
    have C := Lib.hid (CR.out (List.range k).reverse k wr hlt (by simp) Hp.out)
    clear Hp; go_wp2_with fail
    refine C.out.mono ?_; rintro e w3 ⟨r, rfl, hr, hp3⟩
    have hcan : canL cs ss ks (k + 1) = r := by
     unfold canL; rw [range_rev, Bool.eq_iff_iff, canP_iff]; exact hr.symm
    have hb3 := hp3.choose_spec.2.2.2; have Hp3 := Lib.hid hp3; clear hp3 hr C; cases r
    ·have hR := HR.out.trans (canL_le cs ss ks (show k + 1 ≤ ks.length by omega) hcan)
     clear hcan; go_wp2_with fail
     go_ret2
     exact ⟨by rw [hR]; rfl, below_step (below_step HwW.out hb1) hb3⟩
    ·have Hc := Lib.hid hcan
     clear hcan; go_wp2_with fail
     go_roundw
     case rel => exact ⟨k + 1, by omega, by go_num, Hc, Lib.hid (by rw [range_rev]; exact Hp3.out)⟩
     case measure => simp [intOf]; omega
   ·obtain rfl : k = ks.length := by omega
    have hR := HR.out.trans Hcan.out; go_wp2_with fail
    go_ret2
    exact ⟨by rw [hR]; rfl, below_step (below_step HwW.out hb1) hb⟩
 ·have e1 : (E != 0) = true := by simp [hz]
  have hr : R = false := by rw [HB.out, decide_eq_false hz]; rfl
  clear hz; go_wp2_with fail
  go_ret2
  exact ⟨by rw [hr]; rfl, below_step HwW.out hb1⟩
end Go.Proofs.YtfcaokpadodijaaGreat
namespace Go.Proofs.YtfcaokpadodijaaGreat
open Go.RowKit Go.Proofs.YtfcaokpadodijaaGreat.Mat

theorem firstE_all : ∀ {l : List Int}, firstE l = 0 → ∀ x ∈ l, x = 0
 | x :: xs, h, y, hy => by
  unfold firstE at h
  by_cases hx : x = 0
  ·rw [if_pos hx] at h
   rcases List.mem_cons.1 hy with rfl | hy
   ·exact hx
   ·exact firstE_all h y hy
  ·rw [if_neg hx] at h; exact absurd h hx
theorem unless_true {b : Bool} {e : Int} (he : e ≠ 0) (h : unlessE b e = 0) : b = true := by
 cases b
 ·exact absurd h he
 ·rfl
theorem sc_parts {cs : List ScD} (h : chkSc cs = 0) {c : ScD} (hc : c ∈ cs) : keyB c.who = true ∧ c.who.size ≠ 0 ∧ FitW c := by
 obtain ⟨i, hi⟩ := List.getElem?_of_mem hc
 have h1 := each_zero h i (List.getElem?_eq_some_iff.1 hi).1
 unfold scF at h1
 rw [scAt_some hi] at h1
 have hk : keyB c.who = true := unless_true (e := 5) (by decide) (firstE_all h1 (unlessE (keyB c.who) 5) (by simp))
 have hw := firstE_all h1 (wrongF c.num c.den 10000) (by simp)
 refine ⟨hk, ?_, fun _ => fitH_of hw⟩
 unfold keyB at hk
 simp only [Bool.and_eq_true, decide_eq_true_eq] at hk
 omega
theorem scs_sorted {cs : List ScD} (h : chkSc cs = 0) : SortedK (cs.map ScD.who) := by
 refine sorted_step fun i hi => ?_
 rw [List.length_map] at hi
 have h1 := each_zero h (i + 1) hi
 unfold scF at h1
 rw [scAt_some (List.getElem?_eq_getElem hi)] at h1
 have e1 : keyAt (cs.map ScD.who) i = (cs[i]).who := keyAt_who (List.getElem?_eq_getElem (by omega))
 have e2 : keyAt (cs.map ScD.who) (i + 1) = (cs[i + 1]).who := keyAt_who (List.getElem?_eq_getElem hi)
 rw [e1, e2]
 have e3 : (scAt cs (i + 1 - 1)).who = (cs[i]).who := by rw [Nat.add_sub_cancel, scAt_some (List.getElem?_eq_getElem (by omega))]
 rw [e3] at h1
 have := unless_true (by decide) (firstE_all h1 (unlessE (decide (i + 1 = 0) || ltS (cs[i]).who (cs[i + 1]).who) 7) (by simp))
 simpa using this
theorem tdiv_pos {d : Int} (h1 : 0 < d) (h2 : d ≤ 100) : 0 < (100 : Int).tdiv d := by
 rw [Int.tdiv_eq_ediv_of_nonneg (by omega)]
 have := Int.le_ediv_of_mul_le (a := 1) (b := 100) h1 (by omega)
 omega
section
variable {cs : List ScD} {ss : List SlD}
theorem el_win (h : chkSc cs = 0) (x : Nat) : elR cs x = winB cs x := by
 unfold elR winB scAt
 cases hx : cs[x]? with
 | none => rfl
 | some c =>
  obtain ⟨_, hz, hf⟩ := sc_parts h (List.mem_of_getElem? hx); obtain ⟨h1, h2, _, _⟩ := hf hz; have hq := tdiv_pos h1 h2; show decide (0 < c.num) = decide (0 < wthC c)
  unfold wthC; rw [if_neg hz]; unfold ptH; generalize (100 : Int).tdiv c.den = q at hq
  congr 1
  rw [eq_iff_iff]; constructor
  ·intro h; exact Int.mul_pos h hq
  ·intro h
   rcases Int.lt_or_le 0 c.num with h' | h'
   ·exact h'
   ·exfalso
    have := Int.mul_le_mul_of_nonneg_right h' (Int.le_of_lt hq)
    rw [Int.zero_mul] at this
    omega
theorem el_pos (h : chkSc cs = 0) (x : Nat) (hx : elR cs x = true) : 0 < wAt cs x := by
 rw [el_win h] at hx
 exact of_decide_eq_true hx
theorem bst_luN (h : chkSc cs = 0) : bstF ss cs = finL cs ss 0 (luN cs ss 0 0).who ∧ sumFi cs (bstF ss cs) = (luN cs ss 0 0).sum := by
 have hm : ∀ x, x ∈ winsL cs ↔ Free cs.length (elR cs) 0 x := fun x => by
  rw [wins_mem]; unfold Free; rw [el_win h]; simp
 have hg : gre cs ss 0 (winsL cs) = (dp cs.length (fitS cs ss) (elR cs) (wAt cs) ss.length 0 0).sum := by
  unfold gre; rw [Nat.sub_zero]; exact great_dp (wins_nodup cs) hm (wins_sorted cs) (el_pos h)
 have hL : luN cs ss 0 0 = dp cs.length (fitS cs ss) (elR cs) (wAt cs) ss.length 0 0 := by unfold luN; rw [Nat.sub_zero]
 have hb : bstF ss cs = finL cs ss 0 (luN cs ss 0 0).who := by
  unfold bstF; rw [hg, best_dp (el_pos h) ss.length 0 0 (winsL cs) (wins_nodup cs) hm (wins_sorted cs), hL]
 refine ⟨hb, ?_⟩
 obtain ⟨h1, _, h3⟩ := dp_sum (n := cs.length) (fit := fitS cs ss) (el := elR cs) (w := wAt cs) ss.length 0 0
 rw [hb, hL, sum_names (scs_sorted h) (fun c hc => (sc_parts h hc).2.1) 0 _ h3, h1]
theorem lu_small (h : chkSc cs = 0) (hm : ss.length ≤ 12) : -12000000 ≤ (luN cs ss 0 0).sum ∧ (luN cs ss 0 0).sum ≤ 12000000 := by
 have := luN_ok (ss := ss) (fun c hc => (sc_parts h hc).2.2) 0 0
 have h1 := this.s1
 have h2 := this.s2
 omega
end
end Go.Proofs.YtfcaokpadodijaaGreat
