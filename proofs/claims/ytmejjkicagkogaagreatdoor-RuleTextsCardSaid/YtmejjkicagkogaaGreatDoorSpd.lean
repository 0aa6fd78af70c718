/- What the rules give, one after the other: the iterator. -/
import Derived.Test.YtmejjkicagkogaaGreatDoorSpc
import Derived.Test.YtmejjkicagkogaaGreatDoorRegi
import Derived.RangeFuncNested
import Derived.RangeFuncBound
import Derived.RangeFuncCalls
import Derived.RangeFuncLeaves
import Derived.OwnWalkIn
import Derived.TacticsInMore
import Derived.LoopNIn
import Derived.LoopIn
namespace Go.Proofs.YtmejjkicagkogaaGreatDoor
open Go.RowKit

/-- Is a string among some? -/
def cnS (ks : List ByteArray) (x : ByteArray) : Bool := Lib.containsS ks x
set_option maxHeartbeats 400000 in
theorem contains_calls (lo : Nat) (v : Value) (ks : List ByteArray) (x : ByteArray) (w : World) (hK : Strs w lo v ks) : Calls Tryz.prog 68 #[v, .string x] w fun e w' => e = .returned (.bool (cnS ks x)) ∧ w = w' := by
  rcases strs_at hK with ⟨rfl, rfl⟩ | ⟨g, off, cap, rfl, _, hg, hn, hc⟩
  · exact (Tryz.slices_Contains_string_empty none 0 x w).mono fun e w' ⟨h1, h2⟩ => ⟨h1, h2.symm⟩
  · refine (Tryz.slices_Contains_string g off ks.length cap ks x w (Nat.le_refl _) (by omega) fun j hj => ?_).mono fun e w' ⟨h1, h2⟩ => ⟨by rw [h1, List.take_of_length_le (Nat.le_refl _)]; rfl, h2.symm⟩
    rw [hc j ks[j] (List.getElem?_eq_getElem hj)]
    simp [hj]
/-- Below n all blocks but one are as they were. -/
structure Kept (n s : Nat) (W W' : World) : Prop where
  size : W.heap.size ≤ W'.heap.size
  block : ∀ k, k < n → k ≠ s → W'.heap[k]? = W.heap[k]?
theorem Kept.refl (n s : Nat) (W : World) : Kept n s W W := ⟨Nat.le_refl _, fun _ _ _ => rfl⟩
theorem Kept.trans {n s : Nat} {A B C : World} (h : Kept n s A B) (k : Kept n s B C) : Kept n s A C := ⟨Nat.le_trans h.size k.size, fun j hj hs => (k.block j hj hs).trans (h.block j hj hs)⟩
theorem Kept.of {n s : Nat} {A B : World} (h : Below A.heap.size A B) (hn : n ≤ A.heap.size) : Kept n s A B := ⟨h.size, fun k hk _ => h.block k (Nat.lt_of_lt_of_le hk hn)⟩
theorem Kept.cell {n s b o : Nat} {A B : World} (h : Kept n s A B) (hb : b < n) (hs : b ≠ s) : B.cell? ⟨b, o, none⟩ = A.cell? ⟨b, o, none⟩ := World.cell?_of_block (h.block b hb hs)
/-- Does a rule apply? -/
def appB (ks : List ByteArray) (r : RD) : Bool := decide (r.pos.size = 0) || cnS ks r.pos
/-- What a rule gives, in hundredths. -/
def givenI (ts : List TD) (r : RD) : Int := r.num * ((100 : Int).tdiv r.den) * timesI r.kind r.many (cntB ts r.stat)
/-- What must hold of a rule and of the statistics for the reckoning to fit. -/
structure FitR (ts : List TD) (r : RD) : Prop where
  den : 0 < r.den
  den2 : r.den ≤ 100
  hun : -1000000 ≤ r.num * ((100 : Int).tdiv r.den) ∧ r.num * ((100 : Int).tdiv r.den) ≤ 1000000
  cnt : -100000 ≤ cntB ts r.stat ∧ cntB ts r.stat ≤ 100000
  many : r.kind = 2 → 1 ≤ r.many
  giv : -100000000000 ≤ givenI ts r ∧ givenI ts r ≤ 100000000000
theorem times_small {kind many n : Int} (hn : -100000 ≤ n ∧ n ≤ 100000) (hm : kind = 2 → 1 ≤ many) : -100000 ≤ timesI kind many n ∧ timesI kind many n ≤ 100000 := by
  unfold timesI onceI
  split
  · exact hn
  · split
    · rename_i h2
      have h1 := hm h2
      have h6 : ((max n 0).tdiv many).natAbs ≤ (max n 0).natAbs := by rw [Int.natAbs_tdiv]; exact Nat.div_le_self _ _
      have h5 := Int.tdiv_nonneg (show 0 ≤ max n 0 by omega) (show 0 ≤ many by omega)
      omega
    · split <;> split <;> omega

theorem take_filter {α : Type} (p : α → Bool) {l : List α} {k : Nat} {x : α} (hk : l[k]? = some x) : (l.take (k + 1)).filter p = (l.take k).filter p ++ (if p x then [x] else []) := by
  rw [List.take_add_one, hk, List.filter_append]
  cases h : p x <;> simp [h]
/-- A rule that fits. -/
abbrev GR (ts : List TD) := { r : RD // FitR ts r }
/-- What the iterator hands out for it. -/
def encG (ts : List TD) (x : GR ts) : Array Value := #[.string x.1.key, .int .i64 (givenI ts x.1)]
set_option maxHeartbeats 400000 in
theorem gifts_calls (rv kv : Value) (l : LD) (x : Value) (w : World) {ra ka xa : Option Addr} {rn rc kn kc xn xc : Nat} (hrv : rv = .slice ra rn rc) (hkv : kv = .slice ka kn kc) (hxv : x = .slice xa xn xc) :
    Calls Tryz.prog 93 #[rv, kv, lnV l x] w fun e w' => e = .returned (.func (.func 112) #[] #[.pointer (some ⟨w.heap.size, 0, none⟩), .pointer (some ⟨w.heap.size + 1, 0, none⟩), .pointer (some ⟨w.heap.size + 2, 0, none⟩)]) ∧
      w' = ((w.alloc (.cells #[rv] 26)).alloc (.cells #[kv] 52)).alloc (.cells #[.string l.player, .int .i64 l.week, x] 78) := by
  subst hrv hkv hxv
  unfold lnV
  go_enter Tryz.func93, Tryz.ntmps93
  go_wp2_with fail
  go_ret
  exact ⟨rfl, rfl⟩
attribute [local go_sem] Oper.semAt_some
def ops_112_4 : Array Go.Oper := #[
  { dst := some 23, op := Go.Op.move (Go.Operand.tmp 0), type := 138, pos := "score.go:115", after := #[], guard := none },
  { dst := some 24, op := Go.Op.fieldAddr 40 (Go.Operand.tmp 6) 0, type := 0, pos := "score.go:115", after := #[], guard := none },
  { dst := some 25, op := Go.Op.load 9 (Go.Operand.tmp 24), type := 9, pos := "score.go:115", after := #[{ on := 1, ground := Go.Ground.data }], guard := none },
  { dst := some 26, op := Go.Op.fieldAddr 40 (Go.Operand.tmp 6) 5, type := 0, pos := "score.go:115", after := #[], guard := none },
  { dst := some 27, op := Go.Op.load 38 (Go.Operand.tmp 26), type := 38, pos := "score.go:115", after := #[{ on := 3, ground := Go.Ground.data }], guard := none },
  { dst := some 28, op := Go.Op.call { callee := Go.Callee.value (Go.Operand.func 113), args := #[Go.Operand.tmp 27], argTypes := #[38] }, type := 3, pos := "score.go:115", after := #[{ on := 4, ground := Go.Ground.data }], guard := none },
  { dst := some 29, op := Go.Op.load 40 (Go.Operand.tmp 6), type := 40, pos := "score.go:115", after := #[], guard := none },
  { dst := some 30, op := Go.Op.load 78 (Go.Operand.tmp 3), type := 78, pos := "score.go:115", after := #[], guard := none },
  { dst := some 31, op := Go.Op.fieldAddr 40 (Go.Operand.tmp 6) 1, type := 0, pos := "score.go:115", after := #[], guard := none },
  { dst := some 32, op := Go.Op.load 9 (Go.Operand.tmp 31), type := 9, pos := "score.go:115", after := #[{ on := 8, ground := Go.Ground.data }], guard := none },
  { dst := some 33, op := Go.Op.call { callee := Go.Callee.value (Go.Operand.func 115), args := #[Go.Operand.tmp 30, Go.Operand.tmp 32], argTypes := #[78, 9] }, type := 3, pos := "score.go:115", after := #[{ on := 7, ground := Go.Ground.data }, { on := 9, ground := Go.Ground.data }, { on := 5, ground := Go.Ground.chain }], guard := none },
  { dst := some 34, op := Go.Op.call { callee := Go.Callee.value (Go.Operand.func 114), args := #[Go.Operand.tmp 29, Go.Operand.tmp 33], argTypes := #[40, 3] }, type := 3, pos := "score.go:115", after := #[{ on := 6, ground := Go.Ground.data }, { on := 10, ground := Go.Ground.data }, { on := 10, ground := Go.Ground.chain }], guard := none },
  { dst := some 35, op := Go.Op.binOp Go.BinOp.mul 3 (Go.Operand.tmp 28) (Go.Operand.tmp 34) 3, type := 3, pos := "score.go:115", after := #[{ on := 5, ground := Go.Ground.data }, { on := 11, ground := Go.Ground.data }], guard := none },
  { dst := some 36, op := Go.Op.call { callee := Go.Callee.value (Go.Operand.tmp 23), args := #[Go.Operand.tmp 25, Go.Operand.tmp 35], argTypes := #[9, 3] }, type := 4, pos := "score.go:115", after := #[{ on := 0, ground := Go.Ground.data }, { on := 2, ground := Go.Ground.data }, { on := 12, ground := Go.Ground.data }, { on := 11, ground := Go.Ground.chain }], guard := none },
  { dst := some 37, op := Go.Op.unOp Go.UnOp.not 4 (Go.Operand.tmp 36), type := 4, pos := "score.go:115", after := #[{ on := 13, ground := Go.Ground.data }], guard := none }]
theorem ops_112_4_0 : ops_112_4[0]? = some ({ dst := some 23, op := Go.Op.move (Go.Operand.tmp 0), type := 138, pos := "score.go:115", after := #[], guard := none } : Go.Oper) := rfl
theorem ops_112_4_1 : ops_112_4[1]? = some ({ dst := some 24, op := Go.Op.fieldAddr 40 (Go.Operand.tmp 6) 0, type := 0, pos := "score.go:115", after := #[], guard := none } : Go.Oper) := rfl
theorem ops_112_4_2 : ops_112_4[2]? = some ({ dst := some 25, op := Go.Op.load 9 (Go.Operand.tmp 24), type := 9, pos := "score.go:115", after := #[{ on := 1, ground := Go.Ground.data }], guard := none } : Go.Oper) := rfl
theorem ops_112_4_3 : ops_112_4[3]? = some ({ dst := some 26, op := Go.Op.fieldAddr 40 (Go.Operand.tmp 6) 5, type := 0, pos := "score.go:115", after := #[], guard := none } : Go.Oper) := rfl
theorem ops_112_4_4 : ops_112_4[4]? = some ({ dst := some 27, op := Go.Op.load 38 (Go.Operand.tmp 26), type := 38, pos := "score.go:115", after := #[{ on := 3, ground := Go.Ground.data }], guard := none } : Go.Oper) := rfl
theorem ops_112_4_5 : ops_112_4[5]? = some ({ dst := some 28, op := Go.Op.call { callee := Go.Callee.value (Go.Operand.func 113), args := #[Go.Operand.tmp 27], argTypes := #[38] }, type := 3, pos := "score.go:115", after := #[{ on := 4, ground := Go.Ground.data }], guard := none } : Go.Oper) := rfl
theorem ops_112_4_6 : ops_112_4[6]? = some ({ dst := some 29, op := Go.Op.load 40 (Go.Operand.tmp 6), type := 40, pos := "score.go:115", after := #[], guard := none } : Go.Oper) := rfl
theorem ops_112_4_7 : ops_112_4[7]? = some ({ dst := some 30, op := Go.Op.load 78 (Go.Operand.tmp 3), type := 78, pos := "score.go:115", after := #[], guard := none } : Go.Oper) := rfl
theorem ops_112_4_8 : ops_112_4[8]? = some ({ dst := some 31, op := Go.Op.fieldAddr 40 (Go.Operand.tmp 6) 1, type := 0, pos := "score.go:115", after := #[], guard := none } : Go.Oper) := rfl
theorem ops_112_4_9 : ops_112_4[9]? = some ({ dst := some 32, op := Go.Op.load 9 (Go.Operand.tmp 31), type := 9, pos := "score.go:115", after := #[{ on := 8, ground := Go.Ground.data }], guard := none } : Go.Oper) := rfl
theorem ops_112_4_10 : ops_112_4[10]? = some ({ dst := some 33, op := Go.Op.call { callee := Go.Callee.value (Go.Operand.func 115), args := #[Go.Operand.tmp 30, Go.Operand.tmp 32], argTypes := #[78, 9] }, type := 3, pos := "score.go:115", after := #[{ on := 7, ground := Go.Ground.data }, { on := 9, ground := Go.Ground.data }, { on := 5, ground := Go.Ground.chain }], guard := none } : Go.Oper) := rfl
theorem ops_112_4_11 : ops_112_4[11]? = some ({ dst := some 34, op := Go.Op.call { callee := Go.Callee.value (Go.Operand.func 114), args := #[Go.Operand.tmp 29, Go.Operand.tmp 33], argTypes := #[40, 3] }, type := 3, pos := "score.go:115", after := #[{ on := 6, ground := Go.Ground.data }, { on := 10, ground := Go.Ground.data }, { on := 10, ground := Go.Ground.chain }], guard := none } : Go.Oper) := rfl
theorem ops_112_4_12 : ops_112_4[12]? = some ({ dst := some 35, op := Go.Op.binOp Go.BinOp.mul 3 (Go.Operand.tmp 28) (Go.Operand.tmp 34) 3, type := 3, pos := "score.go:115", after := #[{ on := 5, ground := Go.Ground.data }, { on := 11, ground := Go.Ground.data }], guard := none } : Go.Oper) := rfl
theorem ops_112_4_13 : ops_112_4[13]? = some ({ dst := some 36, op := Go.Op.call { callee := Go.Callee.value (Go.Operand.tmp 23), args := #[Go.Operand.tmp 25, Go.Operand.tmp 35], argTypes := #[9, 3] }, type := 4, pos := "score.go:115", after := #[{ on := 0, ground := Go.Ground.data }, { on := 2, ground := Go.Ground.data }, { on := 12, ground := Go.Ground.data }, { on := 11, ground := Go.Ground.chain }], guard := none } : Go.Oper) := rfl
theorem ops_112_4_14 : ops_112_4[14]? = some ({ dst := some 37, op := Go.Op.unOp Go.UnOp.not 4 (Go.Operand.tmp 36), type := 4, pos := "score.go:115", after := #[{ on := 13, ground := Go.Ground.data }], guard := none } : Go.Oper) := rfl
theorem ops_112_4_ns : Go.Region.noSelect ops_112_4 = true := by kernel_rfl
set_option maxRecDepth 100000 in
set_option maxHeartbeats 8000000 in
theorem gifts1_in (n l n₀ s b0 b1 b2 g off cap lo lo' lo3 : Nat) (rs : List RD) (kv : Value) (ks : List ByteArray) (ln : LD) (sv : Value) (hn : 1 ≤ n) (hrn : rs.length ≤ 1000000) (hfit : ∀ r ∈ rs, FitR ln.stats r) (hsm : ∀ r ∈ rs, SmallR r)
    (J Jx : List (GR ln.stats) → World → Prop)
    (hY : ∀ pre x W, J pre W → pre.length < rs.length → YieldAt Fence.wide (n - 1) Tryz.prog l (encG ln.stats x) W fun e W' => (e = .returned (.bool true) ∧ J (pre ++ [x]) W' ∧ Kept n₀ s W W') ∨ (e = .returned (.bool false) ∧ Jx (pre ++ [x]) W'))
    (hJ : ∀ pre W W', J pre W → Below W.heap.size W W' → J pre W')
    (W : World) (hn₀ : n₀ ≤ W.heap.size) (hbn : b0 < n₀ ∧ b1 < n₀ ∧ b2 < n₀ ∧ g < n₀) (hbs : b0 ≠ s ∧ b1 ≠ s ∧ b2 ≠ s ∧ g ≠ s)
    (h0 : W.cell? ⟨b0, 0, none⟩ = some (.slice (some ⟨g, off, none⟩) rs.length cap)) (h1 : W.cell? ⟨b1, 0, none⟩ = some kv) (h2 : W.cell? ⟨b2, 0, none⟩ = some (.string ln.player) ∧ W.cell? ⟨b2, 1, none⟩ = some (.int .i64 ln.week) ∧ W.cell? ⟨b2, 2, none⟩ = some sv)
    (hR : Rls W lo (.slice (some ⟨g, off, none⟩) rs.length cap) rs) (hK : ∀ W', Kept n₀ s W W' → Strs W' lo' kv ks) (hT : ∀ W', Kept n₀ s W W' → Tds W' lo3 sv ln.stats) (hj0 : J [] W) :
    CallsIn Fence.wide n Tryz.prog 112 #[.func (.yield l) #[] #[], .pointer (some ⟨b0, 0, none⟩), .pointer (some ⟨b1, 0, none⟩), .pointer (some ⟨b2, 0, none⟩)] W fun e W' => (∃ v, e = .returned v) ∧
      ((∃ xs : List (GR ln.stats), xs.map (·.1) = rs.filter (appB ks) ∧ J xs W') ∨ (∃ pre, Jx pre W')) := by
  have hcell : ∀ (k : Nat) (r : RD), rs[k]? = some r → ∀ W', Kept n₀ s W W' → W'.cell? ⟨g, off + k * 7, none⟩ = some (.string r.key) ∧ W'.cell? ⟨g, off + k * 7 + 1, none⟩ = some (.string r.stat) ∧ W'.cell? ⟨g, off + k * 7 + 2, none⟩ = some (.string r.pos) ∧ W'.cell? ⟨g, off + k * 7 + 3, none⟩ = some (.int .i64 r.kind) ∧ W'.cell? ⟨g, off + k * 7 + 4, none⟩ = some (.int .i64 r.many) ∧ W'.cell? ⟨g, off + k * 7 + 5, none⟩ = some (.int .i64 r.num) ∧ W'.cell? ⟨g, off + k * 7 + 6, none⟩ = some (.int .i64 r.den) := by
    intro k r hk W' hb
    rcases rls_at hR with ⟨h, _⟩ | ⟨g', off', cap', e, _, _, _, hc⟩
    · cases h
    simp only [Value.slice.injEq, Option.some.injEq, Addr.mk.injEq, and_true, true_and] at e
    obtain ⟨⟨rfl, rfl⟩, rfl⟩ := e
    obtain ⟨q0, q1, q2, q3, q4, q5, q6⟩ := hc k r hk
    have hg := hbn.2.2.2
    have hs := hbs.2.2.2
    exact ⟨(hb.cell hg hs).trans q0, (hb.cell hg hs).trans q1, (hb.cell hg hs).trans q2, (hb.cell hg hs).trans q3, (hb.cell hg hs).trans q4, (hb.cell hg hs).trans q5, (hb.cell hg hs).trans q6⟩
  have hcap : ∀ W', Kept n₀ s W W' → W'.cell? ⟨b0, 0, none⟩ = some (.slice (some ⟨g, off, none⟩) rs.length cap) ∧ W'.cell? ⟨b1, 0, none⟩ = some kv ∧ W'.cell? ⟨b2, 0, none⟩ = some (.string ln.player) ∧ W'.cell? ⟨b2, 1, none⟩ = some (.int .i64 ln.week) ∧ W'.cell? ⟨b2, 2, none⟩ = some sv := fun W' hb =>
    ⟨(hb.cell hbn.1 hbs.1).trans h0, (hb.cell hbn.2.1 hbs.2.1).trans h1, (hb.cell hbn.2.2.1 hbs.2.2.1).trans h2.1, (hb.cell hbn.2.2.1 hbs.2.2.1).trans h2.2.1, (hb.cell hbn.2.2.1 hbs.2.2.1).trans h2.2.2⟩
  have HC := Lib.hid hcell
  have HB := Lib.hid hcap
  have HK := Lib.hid hK
  have HT := Lib.hid hT
  have HY := Lib.hid hY
  have HJ := Lib.hid hJ
  have HF := Lib.hid hfit
  have HM := Lib.hid hsm
  obtain ⟨ksh, kc, hks⟩ : ∃ a c, kv = .slice a ks.length c := strs_shape (hK W (Kept.refl _ _ _))
  subst hks
  clear hcell hcap hK hT hY hJ hfit hsm h0 h1 h2 hR hbn hbs
  refine callsIn_of_wp Tryz.func112 rfl trivial ?_ rfl
  simp only [Tryz.ntmps112, List.size_toArray, List.length_cons, List.length_nil, Nat.reduceAdd, Nat.reduceSub, Array.replicate_succ, Array.replicate_zero, List.push_toArray, List.append_toArray, List.nil_append, List.cons_append]
  obtain ⟨z0, -, -, -, -⟩ := HB.out W (Kept.refl _ _ _)
  gi_wp2_with fail
  clear z0
  gi_loopw [9] (fun i wr => ∃ (k : Nat) (pre : List (GR ln.stats)), k ≤ rs.length ∧ i = .int .i64 k ∧ Hid (pre.map (·.1) = (rs.take k).filter (appB ks)) ∧ Hid (J pre wr) ∧ Kept n₀ s W wr) (fun i _ => rs.length - (intOf i).toNat)
  case atStart => exact ⟨0, [], Nat.zero_le _, rfl, Lib.hid (by simp), Lib.hid hj0, Kept.refl _ _ _⟩
  case round =>
    obtain ⟨k, pre, hk, rfl, Hp, HJs, hnx⟩ := hrel
    by_cases hlt : k < rs.length
    · obtain ⟨r, hr⟩ : ∃ r, rs[k]? = some r := ⟨rs[k], List.getElem?_eq_getElem hlt⟩
      have Hr := Lib.hid hr
      obtain ⟨q0, q1, q2, q3, q4, q5, q6⟩ := HC.out k r hr wr hnx
      obtain ⟨y0, y1, y2, y3, y4⟩ := HB.out wr hnx
      clear hr
      obtain ⟨X, hX⟩ : ∃ X, X = wr.heap.size := ⟨_, rfl⟩
      obtain ⟨wx, hwx⟩ : ∃ wx, wx = wr.alloc (.cells #[.string r.key, .string r.stat, .string r.pos, .int .i64 r.kind, .int .i64 r.many, .int .i64 r.num, .int .i64 r.den] 40) := ⟨_, rfl⟩
      have hbx : Below wr.heap.size wr wx := by rw [hwx]; exact below_alloc wr _
      have hxx : wx.heap[X]? = some (.cells #[.string r.key, .string r.stat, .string r.pos, .int .i64 r.kind, .int .i64 r.many, .int .i64 r.num, .int .i64 r.den] 40 (0, 0)) := by rw [hwx, hX]; exact heap_alloc_new wr _
      have hnr : n₀ ≤ wr.heap.size := Nat.le_trans hn₀ hnx.size
      have hnx2 : Kept n₀ s W wx := hnx.trans (Kept.of hbx hnr)
      obtain ⟨y0', y1', y2', y3', y4'⟩ := HB.out wx hnx2
      have HS := Lib.hid (show ∀ w', Below wx.heap.size wx w' → (Below wx.heap.size wx w' ∧ w'.cell? ⟨X, 0, none⟩ = some (.string r.key) ∧ w'.cell? ⟨X, 1, none⟩ = some (.string r.stat) ∧ w'.cell? ⟨X, 2, none⟩ = some (.string r.pos) ∧ w'.cell? ⟨X, 3, none⟩ = some (.int .i64 r.kind) ∧ w'.cell? ⟨X, 4, none⟩ = some (.int .i64 r.many) ∧ w'.cell? ⟨X, 5, none⟩ = some (.int .i64 r.num) ∧ w'.cell? ⟨X, 6, none⟩ = some (.int .i64 r.den) ∧ w'.cell? ⟨b2, 0, none⟩ = some (.string ln.player) ∧ w'.cell? ⟨b2, 1, none⟩ = some (.int .i64 ln.week) ∧ w'.cell? ⟨b2, 2, none⟩ = some sv) from fun w' hb => ⟨hb, cell_at (cells_later hxx hb) 0 rfl, cell_at (cells_later hxx hb) 1 rfl, cell_at (cells_later hxx hb) 2 rfl, cell_at (cells_later hxx hb) 3 rfl, cell_at (cells_later hxx hb) 4 rfl, cell_at (cells_later hxx hb) 5 rfl, cell_at (cells_later hxx hb) 6 rfl, below_cell hb y2', below_cell hb y3', below_cell hb y4'⟩)
      have x2 := cell_at hxx 2 rfl
      have Hfit := Lib.hid (HF.out r (List.mem_of_getElem? Hr.out))
      obtain ⟨f1, f2, f3, f4, f5, f6⟩ := Hfit.out
      obtain ⟨A, hA⟩ : ∃ A, A = r.num * ((100 : Int).tdiv r.den) := ⟨_, rfl⟩
      obtain ⟨c1, hc1⟩ : ∃ c, c = cntB ln.stats r.stat := ⟨_, rfl⟩
      obtain ⟨T1, hT1⟩ : ∃ t, t = timesI r.kind r.many c1 := ⟨_, rfl⟩
      rw [← hA] at f3
      rw [← hc1] at f4
      have HG := Lib.hid (show givenI ln.stats r = A * T1 by rw [hT1, hc1, hA]; rfl)
      rw [HG.out] at f6
      have hTb := times_small (kind := r.kind) f4 f5
      rw [← hT1] at hTb
      have C5 := Lib.hid (fun w => (show Calls Tryz.prog 113 #[.agg #[.int .i64 r.num, .int .i64 r.den]] w fun e w' => e = .returned (.int .i64 A) ∧ Below w.heap.size w w' by
        have := hundredths_calls r.num r.den w f1 (by rw [← hA]; unfold Int64; omega) f2
        rw [← hA] at this
        exact this))
      have C10 := Lib.hid (fun (w' : World) (hb : Below wx.heap.size wx w') => (show Calls Tryz.prog 115 #[.agg #[.string ln.player, .int .i64 ln.week, sv], .string r.stat] w' (IntBelow c1 w') by
        have := count_calls lo3 ln sv r.stat w' ((HT.out wx hnx2).below hb)
        rw [← hc1] at this
        exact this))
      have C11 := Lib.hid (fun w => (show Calls Tryz.prog 114 #[.agg #[.string r.key, .string r.stat, .string r.pos, .int .i64 r.kind, .int .i64 r.many, .int .i64 r.num, .int .i64 r.den], .int .i64 c1] w fun e w' => e = .returned (.int .i64 T1) ∧ Below w.heap.size w w' by
        have := times_calls r c1 w (by unfold Int64; omega) f5
        rw [← hT1] at this
        exact this))
      have hpl : pre.length < rs.length := by
        have h := congrArg List.length Hp.out
        have h2 := List.length_filter_le (appB ks) (rs.take k)
        simp at h h2
        omega
      have hwr : IntKind.i64.wrap (A * T1) = A * T1 := IntWalk.i64_in _ (by omega)
      clear hA hc1 hT1 f3 f4 f6 hTb
      have HE := Lib.hid (empty_of r.pos)
      have Hbx := Lib.hid hbx
      clear f1 f2 f5 hbx hxx y3' y4' y0' y2'
      have y1a := y1'
      rw [hwx] at y1a
      by_cases hp : r.pos.size = 0
      · have ep : r.pos.toList.isEmpty = true := by rw [HE.out]; simp [hp]
        have Happ := Lib.hid (show appB ks r = true by simp [appB, hp])
        gi_wp2_with fail
        rw [← hwx, ← hX]
        clear hwx hX y1a
        refine ⟨trivial, ?_⟩
        gi_wp2_with fail
        have hb9 : Below wx.heap.size wx wx.drew := (Below.refl wx.heap.size wx).drew
        show Code.wpIn _ _ _ (Code.region 4 ops_112_4 true) _ _ _
        refine regionIn_start 15 (fun w' => Below wx.heap.size wx w' ∧ w'.cell? ⟨X, 0, none⟩ = some (.string r.key) ∧ w'.cell? ⟨X, 1, none⟩ = some (.string r.stat) ∧ w'.cell? ⟨X, 2, none⟩ = some (.string r.pos) ∧ w'.cell? ⟨X, 3, none⟩ = some (.int .i64 r.kind) ∧ w'.cell? ⟨X, 4, none⟩ = some (.int .i64 r.many) ∧ w'.cell? ⟨X, 5, none⟩ = some (.int .i64 r.num) ∧ w'.cell? ⟨X, 6, none⟩ = some (.int .i64 r.den) ∧ w'.cell? ⟨b2, 0, none⟩ = some (.string ln.player) ∧ w'.cell? ⟨b2, 1, none⟩ = some (.int .i64 ln.week) ∧ w'.cell? ⟨b2, 2, none⟩ = some sv) (fun j => [2, 4, 5, 6, 7, 9, 10, 11, 12].contains j) (by kernel_rfl) rfl ?_
        refine takeIn 0 23 (v := ?_) ops_112_4_0 rfl ops_112_4_ns (by kernel_rfl) (by kernel_rfl) (by rfl) rfl (fun _ => rfl) (fun _ _ _ h => h) (by rfl) ?y0 ?_
        case y0 =>
          intro w
          go_simp
          try with_reducible rfl
        simp only [List.set_cons_zero, List.set_cons_succ]
        refine takeIn 1 24 (v := ?_) ops_112_4_1 rfl ops_112_4_ns (by kernel_rfl) (by kernel_rfl) (by rfl) rfl (fun _ => rfl) (fun _ _ _ h => h) (by rfl) ?y1 ?_
        case y1 =>
          intro w
          go_simp
          try with_reducible rfl
        simp only [List.set_cons_zero, List.set_cons_succ]
        refine takeIn 3 26 (v := ?_) ops_112_4_3 rfl ops_112_4_ns (by kernel_rfl) (by kernel_rfl) (by rfl) rfl (fun _ => rfl) (fun _ _ _ h => h) (by rfl) ?y3 ?_
        case y3 =>
          intro w
          go_simp
          try with_reducible rfl
        simp only [List.set_cons_zero, List.set_cons_succ]
        refine takeIn 8 31 (v := ?_) ops_112_4_8 rfl ops_112_4_ns (by kernel_rfl) (by kernel_rfl) (by rfl) rfl (fun _ => rfl) (fun _ _ _ h => h) (by rfl) ?y8 ?_
        case y8 =>
          intro w
          go_simp
          try with_reducible rfl
        simp only [List.set_cons_zero, List.set_cons_succ]
        refine loadIn 2 25 (v := ?_) ops_112_4_2 rfl ops_112_4_ns (by kernel_rfl) (by kernel_rfl) (by kernel_rfl) rfl (fun _ => rfl) (fun _ _ _ h => h) (by rfl) ?y2 (by exact HS.out _ hb9) ?_
        case y2 =>
          intro w hSw
          try dsimp only at hSw
          go_simp
          try with_reducible rfl
        simp only [List.set_cons_zero, List.set_cons_succ]
        refine loadIn 4 27 (v := ?_) ops_112_4_4 rfl ops_112_4_ns (by kernel_rfl) (by kernel_rfl) (by kernel_rfl) rfl (fun _ => rfl) (fun _ _ _ h => h) (by rfl) ?y4 (by exact HS.out _ hb9) ?_
        case y4 =>
          intro w hSw
          try dsimp only at hSw
          go_simp
          try with_reducible rfl
        simp only [List.set_cons_zero, List.set_cons_succ]
        refine loadIn 6 29 (v := ?_) ops_112_4_6 rfl ops_112_4_ns (by kernel_rfl) (by kernel_rfl) (by kernel_rfl) rfl (fun _ => rfl) (fun _ _ _ h => h) (by rfl) ?y6 (by exact HS.out _ hb9) ?_
        case y6 =>
          intro w hSw
          try dsimp only at hSw
          go_simp
          try with_reducible rfl
        simp only [List.set_cons_zero, List.set_cons_succ]
        refine loadIn 7 30 (v := ?_) ops_112_4_7 rfl ops_112_4_ns (by kernel_rfl) (by kernel_rfl) (by kernel_rfl) rfl (fun _ => rfl) (fun _ _ _ h => h) (by rfl) ?y7 (by exact HS.out _ hb9) ?_
        case y7 =>
          intro w hSw
          try dsimp only at hSw
          go_simp
          try with_reducible rfl
        simp only [List.set_cons_zero, List.set_cons_succ]
        refine loadIn 9 32 (v := ?_) ops_112_4_9 rfl ops_112_4_ns (by kernel_rfl) (by kernel_rfl) (by kernel_rfl) rfl (fun _ => rfl) (fun _ _ _ h => h) (by rfl) ?y9 (by exact HS.out _ hb9) ?_
        case y9 =>
          intro w hSw
          try dsimp only at hSw
          go_simp
          try with_reducible rfl
        simp only [List.set_cons_zero, List.set_cons_succ]
        refine runIn 5 ops_112_4_5 (by kernel_rfl) (by rfl) (fun K hK => ?_)
        go_simp
        refine ⟨trivial, (callsIn_wide.2 (C5.out _)).mono ?_⟩
        rintro e w' ⟨rfl, hb'⟩
        replace hb9 := below_step hb9 hb'
        clear hb'
        refine hK.out _ _ (fun _ => ?_) ?_
        · (exact HS.out _ hb9)
        clear hK K
        try simp only [Act.put, List.setIfInBounds_toArray, List.set_cons_zero, List.set_cons_succ]
        refine runIn 10 ops_112_4_10 (by kernel_rfl) (by rfl) (fun K hK => ?_)
        go_simp
        refine ⟨trivial, (callsIn_wide.2 (C10.out _ hb9)).mono ?_⟩
        rintro e w' ⟨rfl, hb'⟩
        replace hb9 := below_step hb9 hb'
        clear hb'
        refine hK.out _ _ (fun _ => ?_) ?_
        · (exact HS.out _ hb9)
        clear hK K
        try simp only [Act.put, List.setIfInBounds_toArray, List.set_cons_zero, List.set_cons_succ]
        refine runIn 11 ops_112_4_11 (by kernel_rfl) (by rfl) (fun K hK => ?_)
        go_simp
        refine ⟨trivial, (callsIn_wide.2 (C11.out _)).mono ?_⟩
        rintro e w' ⟨rfl, hb'⟩
        replace hb9 := below_step hb9 hb'
        clear hb'
        refine hK.out _ _ (fun _ => ?_) ?_
        · (exact HS.out _ hb9)
        clear hK K
        try simp only [Act.put, List.setIfInBounds_toArray, List.set_cons_zero, List.set_cons_succ]
        refine loadIn 12 35 (v := ?_) ops_112_4_12 rfl ops_112_4_ns (by kernel_rfl) (by kernel_rfl) (by kernel_rfl) rfl (fun _ => rfl) (fun _ _ _ h => h) (by rfl) ?y12 (by exact HS.out _ hb9) ?_
        case y12 =>
          intro w hSw
          try dsimp only at hSw
          go_simp
          try with_reducible rfl
        simp only [List.set_cons_zero, List.set_cons_succ]
        obtain ⟨fn, tmps, assign, body, hy, hR⟩ := HY.out pre ⟨r, Hfit.out⟩ _ (HJ.out pre wr _ HJs.out (below_step Hbx.out hb9)) hpl
        dsimp only [encG] at hy
        rw [HG.out] at hy
        refine runIn 13 ops_112_4_13 (by kernel_rfl) (by rfl) (fun K hK => ?_)
        go_simp
        refine hR.mono ?_
        rintro e W3 h3
        obtain ⟨bv, rfl, h3⟩ : ∃ bv : Bool, e = .returned (.bool bv) ∧ ((bv = true ∧ J (pre ++ [⟨r, Hfit.out⟩]) W3 ∧ Kept n₀ s w' W3) ∨ (bv = false ∧ Jx (pre ++ [⟨r, Hfit.out⟩]) W3)) := by
          rcases h3 with ⟨rfl, h3, h4⟩ | ⟨rfl, h3⟩
          · exact ⟨true, rfl, .inl ⟨rfl, h3, h4⟩⟩
          · exact ⟨false, rfl, .inr ⟨rfl, h3⟩⟩
        refine hK.out _ _ (fun h => absurd h (by decide)) ?_
        clear hK K
        try simp only [Act.put, List.setIfInBounds_toArray, List.set_cons_zero, List.set_cons_succ]
        refine takeIn 14 37 (v := ?_) ops_112_4_14 rfl ops_112_4_ns (by kernel_rfl) (by kernel_rfl) (by rfl) rfl (fun _ => rfl) (fun _ _ _ h => h) (by rfl) ?y14 ?_
        case y14 =>
          intro w
          go_simp
          try with_reducible rfl
        simp only [List.set_cons_zero, List.set_cons_succ]
        refine doneIn (by kernel_rfl) ?_ _
        have H3 := Lib.hid h3
        have Hb9 := Lib.hid hb9
        clear h3 hy hR hb9
        cases bv
        · gi_wp2_with fail
          refine bodyPost_ret (results_none rfl _ _ _) rfl ?_
          rcases H3.out with ⟨h, _⟩ | ⟨_, hJx3⟩
          · cases h
          · exact ⟨⟨_, rfl⟩, .inr ⟨_, hJx3⟩⟩
        · gi_wp2_with fail
          go_roundw
          case rel =>
            rcases H3.out with ⟨_, hJ3, hk3⟩ | ⟨h, _⟩
            · exact ⟨k + 1, pre ++ [⟨r, Hfit.out⟩], by omega, by go_num, Lib.hid (by rw [List.map_append, Hp.out, take_filter (appB ks) Hr.out, Happ.out]; rfl), Lib.hid hJ3, (hnx.trans (Kept.of (below_step Hbx.out Hb9.out) hnr)).trans hk3⟩
            · cases h
          case measure => simp [intOf]; omega
      · have ep : r.pos.toList.isEmpty = false := by rw [HE.out]; simp [hp]
        gi_wp2_with fail
        rw [← hwx, ← hX]
        have HKx := HK.out wx hnx2
        cases hcn : cnS ks r.pos
        · have Happ := Lib.hid (show appB ks r = false by simp [appB, hp, hcn])
          have Hcn := Lib.hid hcn
          clear hwx hX y1a hcn
          refine ⟨trivial, (callsIn_wide.2 (contains_calls lo' _ ks r.pos wx HKx)).mono ?_⟩
          rintro e w' ⟨rfl, rfl⟩
          rw [Hcn.out]
          gi_wp2_with fail
          go_roundw
          case rel => exact ⟨k + 1, pre, by omega, by go_num, Lib.hid (by rw [Hp.out, take_filter (appB ks) Hr.out, Happ.out]; simp), Lib.hid (HJ.out pre wr wx HJs.out Hbx.out), hnx2⟩
          case measure => simp [intOf]; omega
        have Happ := Lib.hid (show appB ks r = true by simp [appB, hcn])
        have Hcn := Lib.hid hcn
        clear hwx hX y1a hcn
        refine ⟨trivial, (callsIn_wide.2 (contains_calls lo' _ ks r.pos wx HKx)).mono ?_⟩
        rintro e w' ⟨rfl, rfl⟩
        rw [Hcn.out]
        gi_wp2_with fail
        have hb9 : Below wx.heap.size wx wx.drew := (Below.refl wx.heap.size wx).drew
        show Code.wpIn _ _ _ (Code.region 4 ops_112_4 true) _ _ _
        refine regionIn_start 15 (fun w' => Below wx.heap.size wx w' ∧ w'.cell? ⟨X, 0, none⟩ = some (.string r.key) ∧ w'.cell? ⟨X, 1, none⟩ = some (.string r.stat) ∧ w'.cell? ⟨X, 2, none⟩ = some (.string r.pos) ∧ w'.cell? ⟨X, 3, none⟩ = some (.int .i64 r.kind) ∧ w'.cell? ⟨X, 4, none⟩ = some (.int .i64 r.many) ∧ w'.cell? ⟨X, 5, none⟩ = some (.int .i64 r.num) ∧ w'.cell? ⟨X, 6, none⟩ = some (.int .i64 r.den) ∧ w'.cell? ⟨b2, 0, none⟩ = some (.string ln.player) ∧ w'.cell? ⟨b2, 1, none⟩ = some (.int .i64 ln.week) ∧ w'.cell? ⟨b2, 2, none⟩ = some sv) (fun j => [2, 4, 5, 6, 7, 9, 10, 11, 12].contains j) (by kernel_rfl) rfl ?_
        refine takeIn 0 23 (v := ?_) ops_112_4_0 rfl ops_112_4_ns (by kernel_rfl) (by kernel_rfl) (by rfl) rfl (fun _ => rfl) (fun _ _ _ h => h) (by rfl) ?y0 ?_
        case y0 =>
          intro w
          go_simp
          try with_reducible rfl
        simp only [List.set_cons_zero, List.set_cons_succ]
        refine takeIn 1 24 (v := ?_) ops_112_4_1 rfl ops_112_4_ns (by kernel_rfl) (by kernel_rfl) (by rfl) rfl (fun _ => rfl) (fun _ _ _ h => h) (by rfl) ?y1 ?_
        case y1 =>
          intro w
          go_simp
          try with_reducible rfl
        simp only [List.set_cons_zero, List.set_cons_succ]
        refine takeIn 3 26 (v := ?_) ops_112_4_3 rfl ops_112_4_ns (by kernel_rfl) (by kernel_rfl) (by rfl) rfl (fun _ => rfl) (fun _ _ _ h => h) (by rfl) ?y3 ?_
        case y3 =>
          intro w
          go_simp
          try with_reducible rfl
        simp only [List.set_cons_zero, List.set_cons_succ]
        refine takeIn 8 31 (v := ?_) ops_112_4_8 rfl ops_112_4_ns (by kernel_rfl) (by kernel_rfl) (by rfl) rfl (fun _ => rfl) (fun _ _ _ h => h) (by rfl) ?y8 ?_
        case y8 =>
          intro w
          go_simp
          try with_reducible rfl
        simp only [List.set_cons_zero, List.set_cons_succ]
        refine loadIn 2 25 (v := ?_) ops_112_4_2 rfl ops_112_4_ns (by kernel_rfl) (by kernel_rfl) (by kernel_rfl) rfl (fun _ => rfl) (fun _ _ _ h => h) (by rfl) ?y2 (by exact HS.out _ hb9) ?_
        case y2 =>
          intro w hSw
          try dsimp only at hSw
          go_simp
          try with_reducible rfl
        simp only [List.set_cons_zero, List.set_cons_succ]
        refine loadIn 4 27 (v := ?_) ops_112_4_4 rfl ops_112_4_ns (by kernel_rfl) (by kernel_rfl) (by kernel_rfl) rfl (fun _ => rfl) (fun _ _ _ h => h) (by rfl) ?y4 (by exact HS.out _ hb9) ?_
        case y4 =>
          intro w hSw
          try dsimp only at hSw
          go_simp
          try with_reducible rfl
        simp only [List.set_cons_zero, List.set_cons_succ]
        refine loadIn 6 29 (v := ?_) ops_112_4_6 rfl ops_112_4_ns (by kernel_rfl) (by kernel_rfl) (by kernel_rfl) rfl (fun _ => rfl) (fun _ _ _ h => h) (by rfl) ?y6 (by exact HS.out _ hb9) ?_
        case y6 =>
          intro w hSw
          try dsimp only at hSw
          go_simp
          try with_reducible rfl
        simp only [List.set_cons_zero, List.set_cons_succ]
        refine loadIn 7 30 (v := ?_) ops_112_4_7 rfl ops_112_4_ns (by kernel_rfl) (by kernel_rfl) (by kernel_rfl) rfl (fun _ => rfl) (fun _ _ _ h => h) (by rfl) ?y7 (by exact HS.out _ hb9) ?_
        case y7 =>
          intro w hSw
          try dsimp only at hSw
          go_simp
          try with_reducible rfl
        simp only [List.set_cons_zero, List.set_cons_succ]
        refine loadIn 9 32 (v := ?_) ops_112_4_9 rfl ops_112_4_ns (by kernel_rfl) (by kernel_rfl) (by kernel_rfl) rfl (fun _ => rfl) (fun _ _ _ h => h) (by rfl) ?y9 (by exact HS.out _ hb9) ?_
        case y9 =>
          intro w hSw
          try dsimp only at hSw
          go_simp
          try with_reducible rfl
        simp only [List.set_cons_zero, List.set_cons_succ]
        refine runIn 5 ops_112_4_5 (by kernel_rfl) (by rfl) (fun K hK => ?_)
        go_simp
        refine ⟨trivial, (callsIn_wide.2 (C5.out _)).mono ?_⟩
        rintro e w' ⟨rfl, hb'⟩
        replace hb9 := below_step hb9 hb'
        clear hb'
        refine hK.out _ _ (fun _ => ?_) ?_
        · (exact HS.out _ hb9)
        clear hK K
        try simp only [Act.put, List.setIfInBounds_toArray, List.set_cons_zero, List.set_cons_succ]
        refine runIn 10 ops_112_4_10 (by kernel_rfl) (by rfl) (fun K hK => ?_)
        go_simp
        refine ⟨trivial, (callsIn_wide.2 (C10.out _ hb9)).mono ?_⟩
        rintro e w' ⟨rfl, hb'⟩
        replace hb9 := below_step hb9 hb'
        clear hb'
        refine hK.out _ _ (fun _ => ?_) ?_
        · (exact HS.out _ hb9)
        clear hK K
        try simp only [Act.put, List.setIfInBounds_toArray, List.set_cons_zero, List.set_cons_succ]
        refine runIn 11 ops_112_4_11 (by kernel_rfl) (by rfl) (fun K hK => ?_)
        go_simp
        refine ⟨trivial, (callsIn_wide.2 (C11.out _)).mono ?_⟩
        rintro e w' ⟨rfl, hb'⟩
        replace hb9 := below_step hb9 hb'
        clear hb'
        refine hK.out _ _ (fun _ => ?_) ?_
        · (exact HS.out _ hb9)
        clear hK K
        try simp only [Act.put, List.setIfInBounds_toArray, List.set_cons_zero, List.set_cons_succ]
        refine loadIn 12 35 (v := ?_) ops_112_4_12 rfl ops_112_4_ns (by kernel_rfl) (by kernel_rfl) (by kernel_rfl) rfl (fun _ => rfl) (fun _ _ _ h => h) (by rfl) ?y12 (by exact HS.out _ hb9) ?_
        case y12 =>
          intro w hSw
          try dsimp only at hSw
          go_simp
          try with_reducible rfl
        simp only [List.set_cons_zero, List.set_cons_succ]
        obtain ⟨fn, tmps, assign, body, hy, hR⟩ := HY.out pre ⟨r, Hfit.out⟩ _ (HJ.out pre wr _ HJs.out (below_step Hbx.out hb9)) hpl
        dsimp only [encG] at hy
        rw [HG.out] at hy
        refine runIn 13 ops_112_4_13 (by kernel_rfl) (by rfl) (fun K hK => ?_)
        go_simp
        refine hR.mono ?_
        rintro e W3 h3
        obtain ⟨bv, rfl, h3⟩ : ∃ bv : Bool, e = .returned (.bool bv) ∧ ((bv = true ∧ J (pre ++ [⟨r, Hfit.out⟩]) W3 ∧ Kept n₀ s w' W3) ∨ (bv = false ∧ Jx (pre ++ [⟨r, Hfit.out⟩]) W3)) := by
          rcases h3 with ⟨rfl, h3, h4⟩ | ⟨rfl, h3⟩
          · exact ⟨true, rfl, .inl ⟨rfl, h3, h4⟩⟩
          · exact ⟨false, rfl, .inr ⟨rfl, h3⟩⟩
        refine hK.out _ _ (fun h => absurd h (by decide)) ?_
        clear hK K
        try simp only [Act.put, List.setIfInBounds_toArray, List.set_cons_zero, List.set_cons_succ]
        refine takeIn 14 37 (v := ?_) ops_112_4_14 rfl ops_112_4_ns (by kernel_rfl) (by kernel_rfl) (by rfl) rfl (fun _ => rfl) (fun _ _ _ h => h) (by rfl) ?y14 ?_
        case y14 =>
          intro w
          go_simp
          try with_reducible rfl
        simp only [List.set_cons_zero, List.set_cons_succ]
        refine doneIn (by kernel_rfl) ?_ _
        have H3 := Lib.hid h3
        have Hb9 := Lib.hid hb9
        clear h3 hy hR hb9
        cases bv
        · gi_wp2_with fail
          refine bodyPost_ret (results_none rfl _ _ _) rfl ?_
          rcases H3.out with ⟨h, _⟩ | ⟨_, hJx3⟩
          · cases h
          · exact ⟨⟨_, rfl⟩, .inr ⟨_, hJx3⟩⟩
        · gi_wp2_with fail
          go_roundw
          case rel =>
            rcases H3.out with ⟨_, hJ3, hk3⟩ | ⟨h, _⟩
            · exact ⟨k + 1, pre ++ [⟨r, Hfit.out⟩], by omega, by go_num, Lib.hid (by rw [List.map_append, Hp.out, take_filter (appB ks) Hr.out, Happ.out]; rfl), Lib.hid hJ3, (hnx.trans (Kept.of (below_step Hbx.out Hb9.out) hnr)).trans hk3⟩
            · cases h
          case measure => simp [intOf]; omega
    · obtain rfl : k = rs.length := by omega
      gi_wp2_with fail
      go_end0
      exact ⟨⟨_, rfl⟩, .inl ⟨pre, by rw [Hp.out, List.take_length], HJs.out⟩⟩
end Go.Proofs.YtmejjkicagkogaaGreatDoor
