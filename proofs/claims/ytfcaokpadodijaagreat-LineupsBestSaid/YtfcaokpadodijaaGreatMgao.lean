/- Plain facts on rules, statistics and points. -/
import Derived.Test.YtfcaokpadodijaaGreatMgam
import Derived.Test.YtfcaokpadodijaaGreatMgad
import Derived.RangeFuncNested
import Derived.RangeFuncBound
import Derived.RangeFuncCalls
import Derived.RangeFuncLeaves
import Derived.OwnWalkIn
import Derived.TacticsInMore
import Derived.LoopNIn
import Derived.LoopIn
/- What the rules give, one after the other: the iterator. -/
namespace Go.Proofs.YtfcaokpadodijaaGreat
open Go.RowKit

/-- Is a string among some? -/
def cnS (ks : List ByteArray) (x : ByteArray) : Bool := Lib.containsS ks x
set_option maxHeartbeats 400000 in
theorem contains_calls (lo : Nat) (v : Value) (ks : List ByteArray) (x : ByteArray) (w : World) (hK : Strs w lo v ks) : Calls Tryz.prog 45 #[v, .string x] w fun e w' => e = .returned (.bool (cnS ks x)) ∧ w = w' := by
 rcases strs_at hK with ⟨rfl, rfl⟩ | ⟨g, off, cap, rfl, _, hg, hn, hc⟩
 ·exact (Tryz.slices_Contains_string_empty none 0 x w).mono fun e w' ⟨h1, h2⟩ => ⟨h1, h2.symm⟩
 ·refine (Tryz.slices_Contains_string g off ks.length cap ks x w (Nat.le_refl _) (by omega) fun j hj => ?_).mono fun e w' ⟨h1, h2⟩ => ⟨by rw [h1, List.take_of_length_le (Nat.le_refl _)]; rfl, h2.symm⟩
  rw [hc j ks[j] (List.getElem?_eq_getElem hj)]
  simp [hj]
/-- Below n all blocks but one are as they were. -/
structure Kept (n s : Nat) (W W' : World) : Prop where
 size : W.heap.size ≤ W'.heap.size
 block : ∀ k, k < n → k ≠ s → W'.heap[k]? = W.heap[k]?
theorem Kept.refl (n s : Nat) (W : World) : Kept n s W W := ⟨Nat.le_refl _, fun _ _ _ => rfl⟩
theorem Kept.trans {n s : Nat} {A B C : World} (h : Kept n s A B) (k : Kept n s B C) : Kept n s A C := ⟨Nat.le_trans h.size k.size, fun j hj hs => (k.block j hj hs).trans (h.block j hj hs)⟩
theorem Kept.of {n s : Nat} {A B : World} (h : Below A.heap.size A B) (hn : n ≤ A.heap.size) : Kept n s A B := ⟨h.size, fun k hk _ => h.block k (Nat.lt_of_lt_of_le hk hn)⟩
theorem Kept.cell {n s b o : Nat} {A B : World} (h : Kept n s A B) (hb : b < n) (hs : b ≠ s) : B.cell? ⟨b, o, none⟩ = A.cell? ⟨b, o, none⟩ := World.cell?_of_block (h.block b hb hs)
/-- Does a rule apply? -/
def appB (ks : List ByteArray) (r : RD) : Bool := decide (r.pos.size = 0) || cnS ks r.pos
/-- What a rule gives, in hundredths. -/
def givenI (ts : List TD) (r : RD) : Int := r.num * ((100 : Int).tdiv r.den) * timesI r.kind r.many (cntB ts r.stat)
/-- What must hold of a rule and of the statistics for the reckoning to fit. -/
structure FitR (ts : List TD) (r : RD) : Prop where
 den : 0 < r.den
 den2 : r.den ≤ 100
 hun : -1000000 ≤ r.num * ((100 : Int).tdiv r.den) ∧ r.num * ((100 : Int).tdiv r.den) ≤ 1000000
 cnt : -100000 ≤ cntB ts r.stat ∧ cntB ts r.stat ≤ 100000
 many : r.kind = 2 → 1 ≤ r.many
 giv : -100000000000 ≤ givenI ts r ∧ givenI ts r ≤ 100000000000
theorem times_small {kind many n : Int} (hn : -100000 ≤ n ∧ n ≤ 100000) (hm : kind = 2 → 1 ≤ many) : -100000 ≤ timesI kind many n ∧ timesI kind many n ≤ 100000 := by
 unfold timesI onceI
 split
 ·exact hn
 ·split
  ·rename_i h2
   have h1 := hm h2; have h6 : ((max n 0).tdiv many).natAbs ≤ (max n 0).natAbs := by rw [Int.natAbs_tdiv]; exact Nat.div_le_self _ _
   have h5 := Int.tdiv_nonneg (show 0 ≤ max n 0 by omega) (show 0 ≤ many by omega)
   omega
  ·split <;> split <;> omega

theorem take_filter {α : Type} (p : α → Bool) {l : List α} {k : Nat} {x : α} (hk : l[k]? = some x) : (l.take (k + 1)).filter p = (l.take k).filter p ++ (if p x then [x] else []) := by
 rw [List.take_add_one, hk, List.filter_append]
 cases h : p x <;> simp [h]
/-- A rule that fits. -/
abbrev GR (ts : List TD) := { r : RD // FitR ts r }
/-- What the iterator hands out for it. -/
def encG (ts : List TD) (x : GR ts) : Array Value := #[.string x.1.key, .int .i64 (givenI ts x.1)]
set_option maxHeartbeats 400000 in
theorem gifts_calls (rv kv : Value) (l : LD) (x : Value) (w : World) {ra ka xa : Option Addr} {rn rc kn kc xn xc : Nat} (hrv : rv = .slice ra rn rc) (hkv : kv = .slice ka kn kc) (hxv : x = .slice xa xn xc) :
  Calls Tryz.prog 139 #[rv, kv, lnV l x] w fun e w' => e = .returned (.func (.func 149) #[] #[.pointer (some ⟨w.heap.size, 0, none⟩), .pointer (some ⟨w.heap.size + 1, 0, none⟩), .pointer (some ⟨w.heap.size + 2, 0, none⟩)]) ∧
   w' = ((w.alloc (.cells #[rv] 115)).alloc (.cells #[kv] 39)).alloc (.cells #[.string l.player, .int .i64 l.week, x] 120) := by
 subst hrv hkv hxv
 unfold lnV
 go_enter Tryz.func139, Tryz.ntmps139
 go_wp2_with fail
 go_ret
 exact ⟨rfl, rfl⟩
attribute [local go_sem] Oper.semAt_some
def o149_4 : Array Go.Oper := #[
 ⟨some 23, .move (.tmp 0), 167, "score.go:115", #[], none⟩,
 ⟨some 24, .fieldAddr 114 (.tmp 6) 0, 0, "score.go:115", #[], none⟩,
 ⟨some 25, .load 9 (.tmp 24), 9, "score.go:115", #[⟨1, .data⟩], none⟩,
 ⟨some 26, .fieldAddr 114 (.tmp 6) 5, 0, "score.go:115", #[], none⟩,
 ⟨some 27, .load 34 (.tmp 26), 34, "score.go:115", #[⟨3, .data⟩], none⟩,
 ⟨some 28, .call { callee := .value (.func 96), args := #[.tmp 27], argTypes := #[34] }, 3, "score.go:115", #[⟨4, .data⟩], none⟩,
 ⟨some 29, .load 114 (.tmp 6), 114, "score.go:115", #[], none⟩,
 ⟨some 30, .load 120 (.tmp 3), 120, "score.go:115", #[], none⟩,
 ⟨some 31, .fieldAddr 114 (.tmp 6) 1, 0, "score.go:115", #[], none⟩,
 ⟨some 32, .load 9 (.tmp 31), 9, "score.go:115", #[⟨8, .data⟩], none⟩,
 ⟨some 33, .call { callee := .value (.func 151), args := #[.tmp 30, .tmp 32], argTypes := #[120, 9] }, 3, "score.go:115", #[⟨7, .data⟩, ⟨9, .data⟩, ⟨5, .chain⟩], none⟩,
 ⟨some 34, .call { callee := .value (.func 150), args := #[.tmp 29, .tmp 33], argTypes := #[114, 3] }, 3, "score.go:115", #[⟨6, .data⟩, ⟨10, .data⟩, ⟨10, .chain⟩], none⟩,
 ⟨some 35, .binOp .mul 3 (.tmp 28) (.tmp 34) 3, 3, "score.go:115", #[⟨5, .data⟩, ⟨11, .data⟩], none⟩,
 ⟨some 36, .call { callee := .value (.tmp 23), args := #[.tmp 25, .tmp 35], argTypes := #[9, 3] }, 4, "score.go:115", #[⟨0, .data⟩, ⟨2, .data⟩, ⟨12, .data⟩, ⟨11, .chain⟩], none⟩,
 ⟨some 37, .unOp .not 4 (.tmp 36), 4, "score.go:115", #[⟨13, .data⟩], none⟩]
theorem o149_4_0 : o149_4[0]? = some (⟨some 23, .move (.tmp 0), 167, "score.go:115", #[], none⟩ : Go.Oper) := rfl
theorem o149_4_1 : o149_4[1]? = some (⟨some 24, .fieldAddr 114 (.tmp 6) 0, 0, "score.go:115", #[], none⟩ : Go.Oper) := rfl
theorem o149_4_2 : o149_4[2]? = some (⟨some 25, .load 9 (.tmp 24), 9, "score.go:115", #[⟨1, .data⟩], none⟩ : Go.Oper) := rfl
theorem o149_4_3 : o149_4[3]? = some (⟨some 26, .fieldAddr 114 (.tmp 6) 5, 0, "score.go:115", #[], none⟩ : Go.Oper) := rfl
theorem o149_4_4 : o149_4[4]? = some (⟨some 27, .load 34 (.tmp 26), 34, "score.go:115", #[⟨3, .data⟩], none⟩ : Go.Oper) := rfl
theorem o149_4_5 : o149_4[5]? = some (⟨some 28, .call { callee := .value (.func 96), args := #[.tmp 27], argTypes := #[34] }, 3, "score.go:115", #[⟨4, .data⟩], none⟩ : Go.Oper) := rfl
theorem o149_4_6 : o149_4[6]? = some (⟨some 29, .load 114 (.tmp 6), 114, "score.go:115", #[], none⟩ : Go.Oper) := rfl
theorem o149_4_7 : o149_4[7]? = some (⟨some 30, .load 120 (.tmp 3), 120, "score.go:115", #[], none⟩ : Go.Oper) := rfl
theorem o149_4_8 : o149_4[8]? = some (⟨some 31, .fieldAddr 114 (.tmp 6) 1, 0, "score.go:115", #[], none⟩ : Go.Oper) := rfl
theorem o149_4_9 : o149_4[9]? = some (⟨some 32, .load 9 (.tmp 31), 9, "score.go:115", #[⟨8, .data⟩], none⟩ : Go.Oper) := rfl
theorem o149_4_10 : o149_4[10]? = some (⟨some 33, .call { callee := .value (.func 151), args := #[.tmp 30, .tmp 32], argTypes := #[120, 9] }, 3, "score.go:115", #[⟨7, .data⟩, ⟨9, .data⟩, ⟨5, .chain⟩], none⟩ : Go.Oper) := rfl
theorem o149_4_11 : o149_4[11]? = some (⟨some 34, .call { callee := .value (.func 150), args := #[.tmp 29, .tmp 33], argTypes := #[114, 3] }, 3, "score.go:115", #[⟨6, .data⟩, ⟨10, .data⟩, ⟨10, .chain⟩], none⟩ : Go.Oper) := rfl
theorem o149_4_12 : o149_4[12]? = some (⟨some 35, .binOp .mul 3 (.tmp 28) (.tmp 34) 3, 3, "score.go:115", #[⟨5, .data⟩, ⟨11, .data⟩], none⟩ : Go.Oper) := rfl
theorem o149_4_13 : o149_4[13]? = some (⟨some 36, .call { callee := .value (.tmp 23), args := #[.tmp 25, .tmp 35], argTypes := #[9, 3] }, 4, "score.go:115", #[⟨0, .data⟩, ⟨2, .data⟩, ⟨12, .data⟩, ⟨11, .chain⟩], none⟩ : Go.Oper) := rfl
theorem o149_4_14 : o149_4[14]? = some (⟨some 37, .unOp .not 4 (.tmp 36), 4, "score.go:115", #[⟨13, .data⟩], none⟩ : Go.Oper) := rfl
theorem o149_4_ns : Go.Region.noSelect o149_4 = true := by kernel_rfl
set_option maxRecDepth 100000 in
set_option maxHeartbeats 8000000 in
theorem gifts1_in (n l n₀ s b0 b1 b2 g off cap lo lo' lo3 : Nat) (rs : List RD) (kv : Value) (ks : List ByteArray) (ln : LD) (sv : Value) (hn : 1 ≤ n) (hrn : rs.length ≤ 1000000) (hfit : ∀ r ∈ rs, FitR ln.stats r) (hsm : ∀ r ∈ rs, SmallR r)
  (J Jx : List (GR ln.stats) → World → Prop)
  (hY : ∀ pre x W, J pre W → pre.length < rs.length → YieldAt Fence.wide (n - 1) Tryz.prog l (encG ln.stats x) W fun e W' => (e = .returned (.bool true) ∧ J (pre ++ [x]) W' ∧ Kept n₀ s W W') ∨ (e = .returned (.bool false) ∧ Jx (pre ++ [x]) W'))
  (hJ : ∀ pre W W', J pre W → Below W.heap.size W W' → J pre W')
  (W : World) (hn₀ : n₀ ≤ W.heap.size) (hbn : b0 < n₀ ∧ b1 < n₀ ∧ b2 < n₀ ∧ g < n₀) (hbs : b0 ≠ s ∧ b1 ≠ s ∧ b2 ≠ s ∧ g ≠ s)
  (h0 : W.cell? ⟨b0, 0, none⟩ = some (.slice (some ⟨g, off, none⟩) rs.length cap)) (h1 : W.cell? ⟨b1, 0, none⟩ = some kv) (h2 : W.cell? ⟨b2, 0, none⟩ = some (.string ln.player) ∧ W.cell? ⟨b2, 1, none⟩ = some (.int .i64 ln.week) ∧ W.cell? ⟨b2, 2, none⟩ = some sv)
  (hR : Rls W lo (.slice (some ⟨g, off, none⟩) rs.length cap) rs) (hK : ∀ W', Kept n₀ s W W' → Strs W' lo' kv ks) (hT : ∀ W', Kept n₀ s W W' → Tds W' lo3 sv ln.stats) (hj0 : J [] W) :
  CallsIn Fence.wide n Tryz.prog 149 #[.func (.yield l) #[] #[], .pointer (some ⟨b0, 0, none⟩), .pointer (some ⟨b1, 0, none⟩), .pointer (some ⟨b2, 0, none⟩)] W fun e W' => (∃ v, e = .returned v) ∧
   ((∃ xs : List (GR ln.stats), xs.map (·.1) = rs.filter (appB ks) ∧ J xs W') ∨ (∃ pre, Jx pre W')) := by
 have hcell : ∀ (k : Nat) (r : RD), rs[k]? = some r → ∀ W', Kept n₀ s W W' → W'.cell? ⟨g, off + k * 7, none⟩ = some (.string r.key) ∧ W'.cell? ⟨g, off + k * 7 + 1, none⟩ = some (.string r.stat) ∧ W'.cell? ⟨g, off + k * 7 + 2, none⟩ = some (.string r.pos) ∧ W'.cell? ⟨g, off + k * 7 + 3, none⟩ = some (.int .i64 r.kind) ∧ W'.cell? ⟨g, off + k * 7 + 4, none⟩ = some (.int .i64 r.many) ∧ W'.cell? ⟨g, off + k * 7 + 5, none⟩ = some (.int .i64 r.num) ∧ W'.cell? ⟨g, off + k * 7 + 6, none⟩ = some (.int .i64 r.den) := by
  intro k r hk W' hb; rcases rls_at hR with ⟨h, _⟩ | ⟨g', off', cap', e, _, _, _, hc⟩
  ·cases h
  simp only [Value.slice.injEq, Option.some.injEq, Addr.mk.injEq, and_true, true_and] at e
  obtain ⟨⟨rfl, rfl⟩, rfl⟩ := e
  obtain ⟨q0, q1, q2, q3, q4, q5, q6⟩ := hc k r hk; have hg := hbn.2.2.2; have hs := hbs.2.2.2; exact ⟨(hb.cell hg hs).trans q0, (hb.cell hg hs).trans q1, (hb.cell hg hs).trans q2, (hb.cell hg hs).trans q3, (hb.cell hg hs).trans q4, (hb.cell hg hs).trans q5, (hb.cell hg hs).trans q6⟩
 have hcap : ∀ W', Kept n₀ s W W' → W'.cell? ⟨b0, 0, none⟩ = some (.slice (some ⟨g, off, none⟩) rs.length cap) ∧ W'.cell? ⟨b1, 0, none⟩ = some kv ∧ W'.cell? ⟨b2, 0, none⟩ = some (.string ln.player) ∧ W'.cell? ⟨b2, 1, none⟩ = some (.int .i64 ln.week) ∧ W'.cell? ⟨b2, 2, none⟩ = some sv := fun W' hb =>
  ⟨(hb.cell hbn.1 hbs.1).trans h0, (hb.cell hbn.2.1 hbs.2.1).trans h1, (hb.cell hbn.2.2.1 hbs.2.2.1).trans h2.1, (hb.cell hbn.2.2.1 hbs.2.2.1).trans h2.2.1, (hb.cell hbn.2.2.1 hbs.2.2.1).trans h2.2.2⟩
 have HC := Lib.hid hcell
 have HB := Lib.hid hcap
 have HK := Lib.hid hK
 have HT := Lib.hid hT
 have HY := Lib.hid hY
 have HJ := Lib.hid hJ
 have HF := Lib.hid hfit
 have HM := Lib.hid hsm
 obtain ⟨ksh, kc, hks⟩ : ∃ a c, kv = .slice a ks.length c := strs_shape (hK W (Kept.refl _ _ _))
 subst hks
 clear hcell hcap hK hT hY hJ hfit hsm h0 h1 h2 hR hbn hbs
 refine callsIn_of_wp Tryz.func149 rfl trivial ?_ rfl
 simp only [Tryz.ntmps149, List.size_toArray, List.length_cons, List.length_nil, Nat.reduceAdd, Nat.reduceSub, Array.replicate_succ, Array.replicate_zero, List.push_toArray, List.append_toArray, List.nil_append, List.cons_append]
 obtain ⟨z0, -, -, -, -⟩ := HB.out W (Kept.refl _ _ _)
 gi_wp2_with fail
 clear z0
 gi_loopw [9] (fun i wr => ∃ (k : Nat) (pre : List (GR ln.stats)), k ≤ rs.length ∧ i = .int .i64 k ∧ Hid (pre.map (·.1) = (rs.take k).filter (appB ks)) ∧ Hid (J pre wr) ∧ Kept n₀ s W wr) (fun i _ => rs.length - (intOf i).toNat)
 case atStart => exact ⟨0, [], Nat.zero_le _, rfl, Lib.hid (by simp), Lib.hid hj0, Kept.refl _ _ _⟩
 case round =>
  obtain ⟨k, pre, hk, rfl, Hp, HJs, hnx⟩ := hrel; by_cases hlt : k < rs.length
  ·obtain ⟨r, hr⟩ : ∃ r, rs[k]? = some r := ⟨rs[k], List.getElem?_eq_getElem hlt⟩
   have Hr := Lib.hid hr; obtain ⟨q0, q1, q2, q3, q4, q5, q6⟩ := HC.out k r hr wr hnx; obtain ⟨y0, y1, y2, y3, y4⟩ := HB.out wr hnx; clear hr; obtain ⟨X, hX⟩ : ∃ X, X = wr.heap.size := ⟨_, rfl⟩
   obtain ⟨wx, hwx⟩ : ∃ wx, wx = wr.alloc (.cells #[.string r.key, .string r.stat, .string r.pos, .int .i64 r.kind, .int .i64 r.many, .int .i64 r.num, .int .i64 r.den] 114) := ⟨_, rfl⟩
   have hbx : Below wr.heap.size wr wx := by rw [hwx]; exact below_alloc wr _
   have hxx : wx.heap[X]? = some (.cells #[.string r.key, .string r.stat, .string r.pos, .int .i64 r.kind, .int .i64 r.many, .int .i64 r.num, .int .i64 r.den] 114 (0, 0)) := by rw [hwx, hX]; exact heap_alloc_new wr _
   have hnr : n₀ ≤ wr.heap.size := Nat.le_trans hn₀ hnx.size
   have hnx2 : Kept n₀ s W wx := hnx.trans (Kept.of hbx hnr)
   obtain ⟨y0', y1', y2', y3', y4'⟩ := HB.out wx hnx2; have HS := Lib.hid (show ∀ w', Below wx.heap.size wx w' → (Below wx.heap.size wx w' ∧ w'.cell? ⟨X, 0, none⟩ = some (.string r.key) ∧ w'.cell? ⟨X, 1, none⟩ = some (.string r.stat) ∧ w'.cell? ⟨X, 2, none⟩ = some (.string r.pos) ∧ w'.cell? ⟨X, 3, none⟩ = some (.int .i64 r.kind) ∧ w'.cell? ⟨X, 4, none⟩ = some (.int .i64 r.many) ∧ w'.cell? ⟨X, 5, none⟩ = some (.int .i64 r.num) ∧ w'.cell? ⟨X, 6, none⟩ = some (.int .i64 r.den) ∧ w'.cell? ⟨b2, 0, none⟩ = some (.string ln.player) ∧ w'.cell? ⟨b2, 1, none⟩ = some (.int .i64 ln.week) ∧ w'.cell? ⟨b2, 2, none⟩ = some sv) from fun w' hb => ⟨hb, cell_at (cells_later hxx hb) 0 rfl, cell_at (cells_later hxx hb) 1 rfl, cell_at (cells_later hxx hb) 2 rfl, cell_at (cells_later hxx hb) 3 rfl, cell_at (cells_later hxx hb) 4 rfl, cell_at (cells_later hxx hb) 5 rfl, cell_at (cells_later hxx hb) 6 rfl, below_cell hb y2', below_cell hb y3', below_cell hb y4'⟩)
   have x2 := cell_at hxx 2 rfl; have Hfit := Lib.hid (HF.out r (List.mem_of_getElem? Hr.out)); obtain ⟨f1, f2, f3, f4, f5, f6⟩ := Hfit.out; obtain ⟨A, hA⟩ : ∃ A, A = r.num * ((100 : Int).tdiv r.den) := ⟨_, rfl⟩
   obtain ⟨c1, hc1⟩ : ∃ c, c = cntB ln.stats r.stat := ⟨_, rfl⟩
   obtain ⟨T1, hT1⟩ : ∃ t, t = timesI r.kind r.many c1 := ⟨_, rfl⟩
   rw [← hA] at f3
   rw [← hc1] at f4
   have HG := Lib.hid (show givenI ln.stats r = A * T1 by rw [hT1, hc1, hA]; rfl)
   rw [HG.out] at f6
   have hTb := times_small (kind := r.kind) f4 f5; rw [← hT1] at hTb
   have C5 := Lib.hid (fun w => (show Calls Tryz.prog 96 #[.agg #[.int .i64 r.num, .int .i64 r.den]] w fun e w' => e = .returned (.int .i64 A) ∧ Below w.heap.size w w' by
    have := hundredths_calls r.num r.den w f1 (by rw [← hA]; unfold Int64; omega) f2
    rw [← hA] at this
    exact this))
   have C10 := Lib.hid (fun (w' : World) (hb : Below wx.heap.size wx w') => (show Calls Tryz.prog 151 #[.agg #[.string ln.player, .int .i64 ln.week, sv], .string r.stat] w' (IntBelow c1 w') by
    have := count_calls lo3 ln sv r.stat w' ((HT.out wx hnx2).below hb)
    rw [← hc1] at this
    exact this))
   have C11 := Lib.hid (fun w => (show Calls Tryz.prog 150 #[.agg #[.string r.key, .string r.stat, .string r.pos, .int .i64 r.kind, .int .i64 r.many, .int .i64 r.num, .int .i64 r.den], .int .i64 c1] w fun e w' => e = .returned (.int .i64 T1) ∧ Below w.heap.size w w' by
    have := times_calls r c1 w (by unfold Int64; omega) f5
    rw [← hT1] at this
    exact this))
   have hpl : pre.length < rs.length := by
    have h := congrArg List.length Hp.out; have h2 := List.length_filter_le (appB ks) (rs.take k); simp at h h2
    omega
   have hwr : IntKind.i64.wrap (A * T1) = A * T1 := IntWalk.i64_in _ (by omega)
   clear hA hc1 hT1 f3 f4 f6 hTb; have HE := Lib.hid (empty_of r.pos); have Hbx := Lib.hid hbx; clear f1 f2 f5 hbx hxx y3' y4' y0' y2'; have y1a := y1'; rw [hwx] at y1a
   by_cases hp : r.pos.size = 0
   ·have ep : r.pos.toList.isEmpty = true := by rw [HE.out]; simp [hp]
    have Happ := Lib.hid (show appB ks r = true by simp [appB, hp])
    gi_wp2_with fail
    rw [← hwx, ← hX]; clear hwx hX y1a; refine ⟨trivial, ?_⟩; gi_wp2_with fail
    have hb9 : Below wx.heap.size wx wx.drew := (Below.refl wx.heap.size wx).drew
    show Code.wpIn _ _ _ (Code.region 4 o149_4 true) _ _ _
    refine regionIn_start 15 (fun w' => Below wx.heap.size wx w' ∧ w'.cell? ⟨X, 0, none⟩ = some (.string r.key) ∧ w'.cell? ⟨X, 1, none⟩ = some (.string r.stat) ∧ w'.cell? ⟨X, 2, none⟩ = some (.string r.pos) ∧ w'.cell? ⟨X, 3, none⟩ = some (.int .i64 r.kind) ∧ w'.cell? ⟨X, 4, none⟩ = some (.int .i64 r.many) ∧ w'.cell? ⟨X, 5, none⟩ = some (.int .i64 r.num) ∧ w'.cell? ⟨X, 6, none⟩ = some (.int .i64 r.den) ∧ w'.cell? ⟨b2, 0, none⟩ = some (.string ln.player) ∧ w'.cell? ⟨b2, 1, none⟩ = some (.int .i64 ln.week) ∧ w'.cell? ⟨b2, 2, none⟩ = some sv) (fun j => [2, 4, 5, 6, 7, 9, 10, 11, 12].contains j) (by kernel_rfl) rfl ?_
    refine takeIn 0 23 (v := ?_) o149_4_0 rfl o149_4_ns (by kernel_rfl) (by kernel_rfl) (by rfl) rfl (fun _ => rfl) (fun _ _ _ h => h) (by rfl) ?y0 ?_
    case y0 => intro w; go_simp; try with_reducible rfl
    simp only [sE0, sE1]; refine takeIn 1 24 (v := ?_) o149_4_1 rfl o149_4_ns (by kernel_rfl) (by kernel_rfl) (by rfl) rfl (fun _ => rfl) (fun _ _ _ h => h) (by rfl) ?y1 ?_
    case y1 => intro w; go_simp; try with_reducible rfl
    simp only [sE0, sE1]; refine takeIn 3 26 (v := ?_) o149_4_3 rfl o149_4_ns (by kernel_rfl) (by kernel_rfl) (by rfl) rfl (fun _ => rfl) (fun _ _ _ h => h) (by rfl) ?y3 ?_
    case y3 => intro w; go_simp; try with_reducible rfl
    simp only [sE0, sE1]; refine takeIn 8 31 (v := ?_) o149_4_8 rfl o149_4_ns (by kernel_rfl) (by kernel_rfl) (by rfl) rfl (fun _ => rfl) (fun _ _ _ h => h) (by rfl) ?y8 ?_
    case y8 => intro w; go_simp; try with_reducible rfl
    simp only [sE0, sE1]; refine loadIn 2 25 (v := ?_) o149_4_2 rfl o149_4_ns (by kernel_rfl) (by kernel_rfl) (by kernel_rfl) rfl (fun _ => rfl) (fun _ _ _ h => h) (by rfl) ?y2 (by exact HS.out _ hb9) ?_
    case y2 => intro w h; (try dsimp only at h); go_simp; try with_reducible rfl
    simp only [sE0, sE1]; refine loadIn 4 27 (v := ?_) o149_4_4 rfl o149_4_ns (by kernel_rfl) (by kernel_rfl) (by kernel_rfl) rfl (fun _ => rfl) (fun _ _ _ h => h) (by rfl) ?y4 (by exact HS.out _ hb9) ?_
    case y4 => intro w h; (try dsimp only at h); go_simp; try with_reducible rfl
    simp only [sE0, sE1]; refine loadIn 6 29 (v := ?_) o149_4_6 rfl o149_4_ns (by kernel_rfl) (by kernel_rfl) (by kernel_rfl) rfl (fun _ => rfl) (fun _ _ _ h => h) (by rfl) ?y6 (by exact HS.out _ hb9) ?_
    case y6 => intro w h; (try dsimp only at h); go_simp; try with_reducible rfl
    simp only [sE0, sE1]; refine loadIn 7 30 (v := ?_) o149_4_7 rfl o149_4_ns (by kernel_rfl) (by kernel_rfl) (by kernel_rfl) rfl (fun _ => rfl) (fun _ _ _ h => h) (by rfl) ?y7 (by exact HS.out _ hb9) ?_
    case y7 => intro w h; (try dsimp only at h); go_simp; try with_reducible rfl
    simp only [sE0, sE1]; refine loadIn 9 32 (v := ?_) o149_4_9 rfl o149_4_ns (by kernel_rfl) (by kernel_rfl) (by kernel_rfl) rfl (fun _ => rfl) (fun _ _ _ h => h) (by rfl) ?y9 (by exact HS.out _ hb9) ?_
    case y9 => intro w h; (try dsimp only at h); go_simp; try with_reducible rfl
    simp only [sE0, sE1]; refine runIn 5 o149_4_5 (by kernel_rfl) (by rfl) (fun K hK => ?_)
    go_simp; refine ⟨trivial, (callsIn_wide.2 (C5.out _)).mono ?_⟩; rintro e w' ⟨rfl, hb'⟩; replace hb9 := below_step hb9 hb'; clear hb'; refine hK.out _ _ (fun _ => ?_) ?_
    ·(exact HS.out _ hb9)
    clear hK K; try simp only [Act.put, sEt, sE0, sE1]
    refine runIn 10 o149_4_10 (by kernel_rfl) (by rfl) (fun K hK => ?_)
    go_simp; refine ⟨trivial, (callsIn_wide.2 (C10.out _ hb9)).mono ?_⟩; rintro e w' ⟨rfl, hb'⟩; replace hb9 := below_step hb9 hb'; clear hb'; refine hK.out _ _ (fun _ => ?_) ?_
    ·(exact HS.out _ hb9)
    clear hK K; try simp only [Act.put, sEt, sE0, sE1]
    refine runIn 11 o149_4_11 (by kernel_rfl) (by rfl) (fun K hK => ?_)
    go_simp; refine ⟨trivial, (callsIn_wide.2 (C11.out _)).mono ?_⟩; rintro e w' ⟨rfl, hb'⟩; replace hb9 := below_step hb9 hb'; clear hb'; refine hK.out _ _ (fun _ => ?_) ?_
    ·(exact HS.out _ hb9)
    clear hK K; try simp only [Act.put, sEt, sE0, sE1]
    refine loadIn 12 35 (v := ?_) o149_4_12 rfl o149_4_ns (by kernel_rfl) (by kernel_rfl) (by kernel_rfl) rfl (fun _ => rfl) (fun _ _ _ h => h) (by rfl) ?y12 (by exact HS.out _ hb9) ?_
    case y12 => intro w h; (try dsimp only at h); go_simp; try with_reducible rfl
    simp only [sE0, sE1]; obtain ⟨fn, tmps, assign, body, hy, hR⟩ := HY.out pre ⟨r, Hfit.out⟩ _ (HJ.out pre wr _ HJs.out (below_step Hbx.out hb9)) hpl; dsimp only [encG] at hy
    rw [HG.out] at hy
    refine runIn 13 o149_4_13 (by kernel_rfl) (by rfl) (fun K hK => ?_)
    go_simp; refine hR.mono ?_; rintro e W3 h3
    obtain ⟨bv, rfl, h3⟩ : ∃ bv : Bool, e = .returned (.bool bv) ∧ ((bv = true ∧ J (pre ++ [⟨r, Hfit.out⟩]) W3 ∧ Kept n₀ s w' W3) ∨ (bv = false ∧ Jx (pre ++ [⟨r, Hfit.out⟩]) W3)) := by
     rcases h3 with ⟨rfl, h3, h4⟩ | ⟨rfl, h3⟩
     ·exact ⟨true, rfl, .inl ⟨rfl, h3, h4⟩⟩
     ·exact ⟨false, rfl, .inr ⟨rfl, h3⟩⟩
    refine hK.out _ _ (fun h => absurd h (by decide)) ?_
    clear hK K; try simp only [Act.put, sEt, sE0, sE1]
    refine takeIn 14 37 (v := ?_) o149_4_14 rfl o149_4_ns (by kernel_rfl) (by kernel_rfl) (by rfl) rfl (fun _ => rfl) (fun _ _ _ h => h) (by rfl) ?y14 ?_
    case y14 => intro w; go_simp; try with_reducible rfl
    simp only [sE0, sE1]; refine doneIn (by kernel_rfl) ?_ _
    have H3 := Lib.hid h3; have Hb9 := Lib.hid hb9; clear h3 hy hR hb9; cases bv
    ·gi_wp2_with fail
     refine bodyPost_ret (results_none rfl _ _ _) rfl ?_; rcases H3.out with ⟨h, _⟩ | ⟨_, hJx3⟩
     ·cases h
     ·exact ⟨⟨_, rfl⟩, .inr ⟨_, hJx3⟩⟩
    ·gi_wp2_with fail
     go_roundw
     case rel =>
      rcases H3.out with ⟨_, hJ3, hk3⟩ | ⟨h, _⟩
      ·exact ⟨k + 1, pre ++ [⟨r, Hfit.out⟩], by omega, by go_num, Lib.hid (by rw [List.map_append, Hp.out, take_filter (appB ks) Hr.out, Happ.out]; rfl), Lib.hid hJ3, (hnx.trans (Kept.of (below_step Hbx.out Hb9.out) hnr)).trans hk3⟩
      ·cases h
     case measure => simp [intOf]; omega
   ·have ep : r.pos.toList.isEmpty = false := by rw [HE.out]; simp [hp]
    gi_wp2_with fail
    rw [← hwx, ← hX]; have HKx := HK.out wx hnx2; cases hcn : cnS ks r.pos
    ·have Happ := Lib.hid (show appB ks r = false by simp [appB, hp, hcn])
     have Hcn := Lib.hid hcn; clear hwx hX y1a hcn; refine ⟨trivial, (callsIn_wide.2 (contains_calls lo' _ ks r.pos wx HKx)).mono ?_⟩; rintro e w' ⟨rfl, rfl⟩; rw [Hcn.out]; gi_wp2_with fail
     go_roundw
     case rel => exact ⟨k + 1, pre, by omega, by go_num, Lib.hid (by rw [Hp.out, take_filter (appB ks) Hr.out, Happ.out]; simp), Lib.hid (HJ.out pre wr wx HJs.out Hbx.out), hnx2⟩
     case measure => simp [intOf]; omega
    have Happ := Lib.hid (show appB ks r = true by simp [appB, hcn])
    have Hcn := Lib.hid hcn; clear hwx hX y1a hcn; refine ⟨trivial, (callsIn_wide.2 (contains_calls lo' _ ks r.pos wx HKx)).mono ?_⟩; rintro e w' ⟨rfl, rfl⟩; rw [Hcn.out]; gi_wp2_with fail
    have hb9 : Below wx.heap.size wx wx.drew := (Below.refl wx.heap.size wx).drew
    show Code.wpIn _ _ _ (Code.region 4 o149_4 true) _ _ _
    refine regionIn_start 15 (fun w' => Below wx.heap.size wx w' ∧ w'.cell? ⟨X, 0, none⟩ = some (.string r.key) ∧ w'.cell? ⟨X, 1, none⟩ = some (.string r.stat) ∧ w'.cell? ⟨X, 2, none⟩ = some (.string r.pos) ∧ w'.cell? ⟨X, 3, none⟩ = some (.int .i64 r.kind) ∧ w'.cell? ⟨X, 4, none⟩ = some (.int .i64 r.many) ∧ w'.cell? ⟨X, 5, none⟩ = some (.int .i64 r.num) ∧ w'.cell? ⟨X, 6, none⟩ = some (.int .i64 r.den) ∧ w'.cell? ⟨b2, 0, none⟩ = some (.string ln.player) ∧ w'.cell? ⟨b2, 1, none⟩ = some (.int .i64 ln.week) ∧ w'.cell? ⟨b2, 2, none⟩ = some sv) (fun j => [2, 4, 5, 6, 7, 9, 10, 11, 12].contains j) (by kernel_rfl) rfl ?_
    refine takeIn 0 23 (v := ?_) o149_4_0 rfl o149_4_ns (by kernel_rfl) (by kernel_rfl) (by rfl) rfl (fun _ => rfl) (fun _ _ _ h => h) (by rfl) ?y0 ?_
    case y0 => intro w; go_simp; try with_reducible rfl
    simp only [sE0, sE1]; refine takeIn 1 24 (v := ?_) o149_4_1 rfl o149_4_ns (by kernel_rfl) (by kernel_rfl) (by rfl) rfl (fun _ => rfl) (fun _ _ _ h => h) (by rfl) ?y1 ?_
    case y1 => intro w; go_simp; try with_reducible rfl
    simp only [sE0, sE1]; refine takeIn 3 26 (v := ?_) o149_4_3 rfl o149_4_ns (by kernel_rfl) (by kernel_rfl) (by rfl) rfl (fun _ => rfl) (fun _ _ _ h => h) (by rfl) ?y3 ?_
    case y3 => intro w; go_simp; try with_reducible rfl
    simp only [sE0, sE1]; refine takeIn 8 31 (v := ?_) o149_4_8 rfl o149_4_ns (by kernel_rfl) (by kernel_rfl) (by rfl) rfl (fun _ => rfl) (fun _ _ _ h => h) (by rfl) ?y8 ?_
    case y8 => intro w; go_simp; try with_reducible rfl
    simp only [sE0, sE1]; refine loadIn 2 25 (v := ?_) o149_4_2 rfl o149_4_ns (by kernel_rfl) (by kernel_rfl) (by kernel_rfl) rfl (fun _ => rfl) (fun _ _ _ h => h) (by rfl) ?y2 (by exact HS.out _ hb9) ?_
    case y2 => intro w h; (try dsimp only at h); go_simp; try with_reducible rfl
    simp only [sE0, sE1]; refine loadIn 4 27 (v := ?_) o149_4_4 rfl o149_4_ns (by kernel_rfl) (by kernel_rfl) (by kernel_rfl) rfl (fun _ => rfl) (fun _ _ _ h => h) (by rfl) ?y4 (by exact HS.out _ hb9) ?_
    case y4 => intro w h; (try dsimp only at h); go_simp; try with_reducible rfl
    simp only [sE0, sE1]; refine loadIn 6 29 (v := ?_) o149_4_6 rfl o149_4_ns (by kernel_rfl) (by kernel_rfl) (by kernel_rfl) rfl (fun _ => rfl) (fun _ _ _ h => h) (by rfl) ?y6 (by exact HS.out _ hb9) ?_
    case y6 => intro w h; (try dsimp only at h); go_simp; try with_reducible rfl
    simp only [sE0, sE1]; refine loadIn 7 30 (v := ?_) o149_4_7 rfl o149_4_ns (by kernel_rfl) (by kernel_rfl) (by kernel_rfl) rfl (fun _ => rfl) (fun _ _ _ h => h) (by rfl) ?y7 (by exact HS.out _ hb9) ?_
    case y7 => intro w h; (try dsimp only at h); go_simp; try with_reducible rfl
    simp only [sE0, sE1]; refine loadIn 9 32 (v := ?_) o149_4_9 rfl o149_4_ns (by kernel_rfl) (by kernel_rfl) (by kernel_rfl) rfl (fun _ => rfl) (fun _ _ _ h => h) (by rfl) ?y9 (by exact HS.out _ hb9) ?_
    case y9 => intro w h; (try dsimp only at h); go_simp; try with_reducible rfl
    simp only [sE0, sE1]; refine runIn 5 o149_4_5 (by kernel_rfl) (by rfl) (fun K hK => ?_)
    go_simp; refine ⟨trivial, (callsIn_wide.2 (C5.out _)).mono ?_⟩; rintro e w' ⟨rfl, hb'⟩; replace hb9 := below_step hb9 hb'; clear hb'; refine hK.out _ _ (fun _ => ?_) ?_
    ·(exact HS.out _ hb9)
    clear hK K; try simp only [Act.put, sEt, sE0, sE1]
    refine runIn 10 o149_4_10 (by kernel_rfl) (by rfl) (fun K hK => ?_)
    go_simp; refine ⟨trivial, (callsIn_wide.2 (C10.out _ hb9)).mono ?_⟩; rintro e w' ⟨rfl, hb'⟩; replace hb9 := below_step hb9 hb'; clear hb'; refine hK.out _ _ (fun _ => ?_) ?_
    ·(exact HS.out _ hb9)
    clear hK K; try simp only [Act.put, sEt, sE0, sE1]
    refine runIn 11 o149_4_11 (by kernel_rfl) (by rfl) (fun K hK => ?_)
    go_simp; refine ⟨trivial, (callsIn_wide.2 (C11.out _)).mono ?_⟩; rintro e w' ⟨rfl, hb'⟩; replace hb9 := below_step hb9 hb'; clear hb'; refine hK.out _ _ (fun _ => ?_) ?_
    ·(exact HS.out _ hb9)
    clear hK K; try simp only [Act.put, sEt, sE0, sE1]
    refine loadIn 12 35 (v := ?_) o149_4_12 rfl o149_4_ns (by kernel_rfl) (by kernel_rfl) (by kernel_rfl) rfl (fun _ => rfl) (fun _ _ _ h => h) (by rfl) ?y12 (by exact HS.out _ hb9) ?_
    case y12 => intro w h; (try dsimp only at h); go_simp; try with_reducible rfl
    simp only [sE0, sE1]; obtain ⟨fn, tmps, assign, body, hy, hR⟩ := HY.out pre ⟨r, Hfit.out⟩ _ (HJ.out pre wr _ HJs.out (below_step Hbx.out hb9)) hpl; dsimp only [encG] at hy
    rw [HG.out] at hy
    refine runIn 13 o149_4_13 (by kernel_rfl) (by rfl) (fun K hK => ?_)
    go_simp; refine hR.mono ?_; rintro e W3 h3
    obtain ⟨bv, rfl, h3⟩ : ∃ bv : Bool, e = .returned (.bool bv) ∧ ((bv = true ∧ J (pre ++ [⟨r, Hfit.out⟩]) W3 ∧ Kept n₀ s w' W3) ∨ (bv = false ∧ Jx (pre ++ [⟨r, Hfit.out⟩]) W3)) := by
     rcases h3 with ⟨rfl, h3, h4⟩ | ⟨rfl, h3⟩
     ·exact ⟨true, rfl, .inl ⟨rfl, h3, h4⟩⟩
     ·exact ⟨false, rfl, .inr ⟨rfl, h3⟩⟩
    refine hK.out _ _ (fun h => absurd h (by decide)) ?_
    clear hK K; try simp only [Act.put, sEt, sE0, sE1]
    refine takeIn 14 37 (v := ?_) o149_4_14 rfl o149_4_ns (by kernel_rfl) (by kernel_rfl) (by rfl) rfl (fun _ => rfl) (fun _ _ _ h => h) (by rfl) ?y14 ?_
    case y14 => intro w; go_simp; try with_reducible rfl
    simp only [sE0, sE1]; refine doneIn (by kernel_rfl) ?_ _
    have H3 := Lib.hid h3; have Hb9 := Lib.hid hb9; clear h3 hy hR hb9; cases bv
    ·gi_wp2_with fail
     refine bodyPost_ret (results_none rfl _ _ _) rfl ?_; rcases H3.out with ⟨h, _⟩ | ⟨_, hJx3⟩
     ·cases h
     ·exact ⟨⟨_, rfl⟩, .inr ⟨_, hJx3⟩⟩
    ·gi_wp2_with fail
     go_roundw
     case rel =>
      rcases H3.out with ⟨_, hJ3, hk3⟩ | ⟨h, _⟩
      ·exact ⟨k + 1, pre ++ [⟨r, Hfit.out⟩], by omega, by go_num, Lib.hid (by rw [List.map_append, Hp.out, take_filter (appB ks) Hr.out, Happ.out]; rfl), Lib.hid hJ3, (hnx.trans (Kept.of (below_step Hbx.out Hb9.out) hnr)).trans hk3⟩
      ·cases h
     case measure => simp [intOf]; omega
  ·obtain rfl : k = rs.length := by omega
   gi_wp2_with fail
   go_end0
   exact ⟨⟨_, rfl⟩, .inl ⟨pre, by rw [Hp.out, List.take_length], HJs.out⟩⟩
end Go.Proofs.YtfcaokpadodijaaGreat
/- points: the sum of what the rules give. -/
namespace Go.Proofs.YtfcaokpadodijaaGreat
open Go.RowKit

attribute [local go_sem] Oper.semAt_some
set_option maxRecDepth 100000 in
set_option maxHeartbeats 2000000 in
theorem gifts1_nil (n l b0 b1 b2 : Nat) (ts : List TD) (J : List (GR ts) → World → Prop) (W : World) (h0 : W.cell? ⟨b0, 0, none⟩ = some (.slice none 0 0)) (hj : J [] W) :
  CallsIn Fence.wide n Tryz.prog 149 #[.func (.yield l) #[] #[], .pointer (some ⟨b0, 0, none⟩), .pointer (some ⟨b1, 0, none⟩), .pointer (some ⟨b2, 0, none⟩)] W fun e W' => (∃ v, e = .returned v) ∧ J [] W' := by
 refine callsIn_of_wp Tryz.func149 rfl trivial ?_ rfl
 simp only [Tryz.ntmps149, List.size_toArray, List.length_cons, List.length_nil, Nat.reduceAdd, Nat.reduceSub, Array.replicate_succ, Array.replicate_zero, List.push_toArray, List.append_toArray, List.nil_append, List.cons_append]
 gi_wp2_with fail
 gi_loopw [9] (fun i wr => i = .int .i64 0 ∧ J [] wr) (fun _ _ => 0)
 case atStart => exact ⟨rfl, hj⟩
 case round =>
  obtain ⟨rfl, hJs⟩ := hrel; gi_wp2_with fail
  go_end0
  exact ⟨⟨_, rfl⟩, hJs⟩

/-- The function value of gifts yields the rules that apply, one after the other. -/
theorem gifts_stops (n n₀ s b0 b1 b2 lo lo' lo3 : Nat) (rs : List RD) (v kv : Value) (ks : List ByteArray) (ln : LD) (sv : Value) (hn : 1 ≤ n) (hrn : rs.length ≤ 1000000) (hfit : ∀ r ∈ rs, FitR ln.stats r) (hsm : ∀ r ∈ rs, SmallR r)
  (w : World) (hn₀ : n₀ ≤ w.heap.size) (hbn : b0 < n₀ ∧ b1 < n₀ ∧ b2 < n₀) (hbs : b0 ≠ s ∧ b1 ≠ s ∧ b2 ≠ s) (hg : ∀ g off m c, v = .slice (some ⟨g, off, none⟩) m c → g < n₀ ∧ g ≠ s)
  (h0 : w.cell? ⟨b0, 0, none⟩ = some v) (h1 : w.cell? ⟨b1, 0, none⟩ = some kv) (h2 : w.cell? ⟨b2, 0, none⟩ = some (.string ln.player) ∧ w.cell? ⟨b2, 1, none⟩ = some (.int .i64 ln.week) ∧ w.cell? ⟨b2, 2, none⟩ = some sv)
  (hR : ∀ W', Kept n₀ s w W' → Rls W' lo v rs) (hK : ∀ W', Kept n₀ s w W' → Strs W' lo' kv ks) (hT : ∀ W', Kept n₀ s w W' → Tds W' lo3 sv ln.stats) :
  SeqStopsK Fence.wide n Tryz.prog 149 #[.pointer (some ⟨b0, 0, none⟩), .pointer (some ⟨b1, 0, none⟩), .pointer (some ⟨b2, 0, none⟩)] (encG ln.stats) (Kept n₀ s) (fun xs => xs.map (·.1) = rs.filter (appB ks)) (fun _ => True) rs.length w := by
 intro l J Jx W hW hJ _ hY hj0
 have hk0 : Kept n₀ s w W := Kept.of hW hn₀
 have c0 := (hk0.cell (o := 0) hbn.1 hbs.1).trans h0
 have c1 := (hk0.cell (o := 0) hbn.2.1 hbs.2.1).trans h1
 have c2 := And.intro ((hk0.cell (o := 0) hbn.2.2 hbs.2.2).trans h2.1) (And.intro ((hk0.cell (o := 1) hbn.2.2 hbs.2.2).trans h2.2.1) ((hk0.cell (o := 2) hbn.2.2 hbs.2.2).trans h2.2.2))
 have hJ' : ∀ pre W W', J pre W → Below W.heap.size W W' → J pre W' := fun pre A B h hb => hJ pre A B none h (gb_below hb none) fun r e => by cases e
 rcases rls_at (hR W hk0) with ⟨rfl, rfl⟩ | ⟨g, off, cap, rfl, _, _, _, _⟩
 ·exact (gifts1_nil n l b0 b1 b2 ln.stats J W c0 hj0).mono fun e W' ⟨he, hj⟩ => ⟨he, .inl ⟨[], by simp, hj⟩⟩
 ·obtain ⟨g1, g2⟩ := hg g off _ _ rfl
  refine (gifts1_in n l n₀ s b0 b1 b2 g off cap lo lo' lo3 rs kv ks ln sv hn hrn hfit hsm J Jx hY hJ' W (Nat.le_trans hn₀ hW.size) ⟨hbn.1, hbn.2.1, hbn.2.2, g1⟩ ⟨hbs.1, hbs.2.1, hbs.2.2, g2⟩ c0 c1 c2 (hR W hk0) (fun W' h => hK W' (hk0.trans h)) (fun W' h => hT W' (hk0.trans h)) hj0).mono ?_
  rintro e W' ⟨he, ⟨xs, hx, hj⟩ | ⟨pre, hj⟩⟩
  ·exact ⟨he, .inl ⟨xs, hx, hj⟩⟩
  ·exact ⟨he, .inr ⟨pre, trivial, hj⟩⟩

/-- The sum of some numbers. -/
def sumI : List Int → Int
 | [] => 0
 | x :: xs => x + sumI xs
theorem sumI_snoc (l : List Int) (x : Int) : sumI (l ++ [x]) = sumI l + x := by
 induction l with
 | nil => simp [sumI]
 | cons y ys ih => simp only [List.cons_append, sumI, ih]; omega
theorem sumI_bound {l : List Int} (h : ∀ x ∈ l, -100000000000 ≤ x ∧ x ≤ 100000000000) : -100000000000 * (l.length : Int) ≤ sumI l ∧ sumI l ≤ 100000000000 * (l.length : Int) := by
 induction l with
 | nil => simp [sumI]
 | cons y ys ih =>
  have h1 := h y (by simp)
  have h2 := ih fun x hx => h x (by simp [hx])
  simp only [sumI, List.length_cons]; omega
/-- The points of a line, in hundredths. -/
def ptsI (rs : List RD) (ks : List ByteArray) (ts : List TD) : Int := sumI ((rs.filter (appB ks)).map (givenI ts))
theorem gr_sum {ts : List TD} (pre : List (GR ts)) : -100000000000 * (pre.length : Int) ≤ sumI (pre.map fun x => givenI ts x.1) ∧ sumI (pre.map fun x => givenI ts x.1) ≤ 100000000000 * (pre.length : Int) := by
 have := sumI_bound (l := pre.map fun x => givenI ts x.1) fun x hx => by
  obtain ⟨y, _, rfl⟩ := List.mem_map.1 hx; exact y.2.giv
 simpa using this
set_option maxRecDepth 100000 in
set_option maxHeartbeats 4000000 in
theorem points_calls (lo lo' lo3 : Nat) (v kv x : Value) (rs : List RD) (ks : List ByteArray) (ln : LD) (w : World) (hR : Rls w lo v rs) (hsm : ∀ r ∈ rs, SmallR r) (hrn : rs.length ≤ 1000) (hfit : ∀ r ∈ rs, FitR ln.stats r) (hK : Strs w lo' kv ks) (hT : Tds w lo3 x ln.stats) :
  Calls Tryz.prog 120 #[v, kv, lnV ln x] w (IntBelow (ptsI rs ks ln.stats) w) := by
 obtain ⟨ra, rc, rfl⟩ := rls_shape hR
 obtain ⟨ka, kc, rfl⟩ := strs_shape hK
 obtain ⟨xa, xc, rfl⟩ := tds_shape hT
 refine (callsIn_wide (n := 3)).1 ?_
 obtain ⟨W2, hW2⟩ : ∃ W2, W2 = (w.alloc (.cells #[.string ln.player, .int .i64 ln.week, .slice xa ln.stats.length xc] 120)).alloc (.cells #[.int .i64 0] 3) := ⟨_, rfl⟩
 have hs2 : W2.heap.size = w.heap.size + 2 := by rw [hW2]; simp
 have hb2 : Below w.heap.size w W2 := by rw [hW2]; exact (below_alloc w _).trans ((below_alloc _ _).mono (by simp))
 have hsum2 : W2.heap[w.heap.size + 1]? = some (.cells #[.int .i64 0] 3 (0, 0)) := by
  rw [hW2]; have := heap_alloc_new (w.alloc (.cells #[.string ln.player, .int .i64 ln.week, .slice xa ln.stats.length xc] 120)) (.cells #[.int .i64 0] 3); rwa [World.size_alloc] at this
 refine callsIn_of_wp_marks Tryz.func120 rfl trivial ?_ rfl
 simp only [Tryz.ntmps120, List.size_toArray, List.length_cons, List.length_nil, Nat.reduceAdd, Nat.reduceSub, Array.replicate_succ, Array.replicate_zero, List.push_toArray, List.append_toArray, List.nil_append, List.cons_append]
 have C := Lib.hid (fun w => gifts_calls (.slice ra rs.length rc) (.slice ka ks.length kc) ln (.slice xa ln.stats.length xc) w rfl rfl rfl)
 unfold lnV at C ⊢
 gi_wp2_with fail
 rw [← hW2]
 refine ⟨trivial, (callsIn_wide.2 (C.out W2)).mono ?_⟩
 rintro e W3 ⟨rfl, hW3⟩
 have hs3 : W3.heap.size = w.heap.size + 5 := by rw [hW3]; simp [hs2]
 have hb23 : Below W2.heap.size W2 W3 := by
  rw [hW3]; exact ((below_alloc W2 _).trans ((below_alloc _ _).mono (by simp))).trans ((below_alloc _ _).mono (by simp; omega))
 have hb3 : Below w.heap.size w W3 := below_step hb2 hb23
 have hsum3 := cells_later hsum2 hb23
 have hc0 : W3.cell? ⟨W2.heap.size, 0, none⟩ = some (.slice ra rs.length rc) := by
  rw [hW3, World.cell?_alloc_past _ _ _ (by simp; omega), World.cell?_alloc_past _ _ _ (by simp), World.cell?_alloc_at _ _ _ _ rfl]; rfl
 have hc1 : W3.cell? ⟨W2.heap.size + 1, 0, none⟩ = some (.slice ka ks.length kc) := by
  rw [hW3, World.cell?_alloc_past _ _ _ (by simp), World.cell?_alloc_at _ _ _ _ (by simp)]; rfl
 have hc2 : ∀ (o : Nat) (u : Value), (#[Value.string ln.player, .int .i64 ln.week, .slice xa ln.stats.length xc] : Array Value)[o]? = some u → W3.cell? ⟨W2.heap.size + 2, o, none⟩ = some u := by
  intro o u hu; rw [hW3, World.cell?_alloc_at _ _ _ _ (by simp)]; exact hu
 have hlift : ∀ W', Kept (w.heap.size + 5) (w.heap.size + 1) W3 W' → ∀ k, k < w.heap.size → W'.heap[k]? = w.heap[k]? := fun W' h k hk => (h.block k (by omega) (by omega)).trans (hb3.block k hk)
 have hRk : ∀ W', Kept (w.heap.size + 5) (w.heap.size + 1) W3 W' → Rls W' lo (.slice ra rs.length rc) rs := fun W' h => Rows.lift hR fun g cur fr _ hg => hlift W' h g (lt_of_heap hg)
 have hKk : ∀ W', Kept (w.heap.size + 5) (w.heap.size + 1) W3 W' → Strs W' lo' (.slice ka ks.length kc) ks := fun W' h => Rows.lift hK fun g cur fr _ hg => hlift W' h g (lt_of_heap hg)
 have hTk : ∀ W', Kept (w.heap.size + 5) (w.heap.size + 1) W3 W' → Tds W' lo3 (.slice xa ln.stats.length xc) ln.stats := fun W' h => Rows.lift hT fun g cur fr _ hg => hlift W' h g (lt_of_heap hg)
 have hgR : ∀ g off m c, Value.slice ra rs.length rc = .slice (some ⟨g, off, none⟩) m c → g < w.heap.size + 5 ∧ g ≠ w.heap.size + 1 := by
  intro g off m c e; rcases rls_at hR with ⟨h, _⟩ | ⟨g', off', cap', e', _, hg', _⟩
  ·rw [h] at e; cases e
  ·rw [e'] at e
   simp only [Value.slice.injEq, Option.some.injEq, Addr.mk.injEq, and_true] at e
   omega
 have HSt := Lib.hid (gifts_stops 2 (w.heap.size + 5) (w.heap.size + 1) W2.heap.size (W2.heap.size + 1) (W2.heap.size + 2) lo lo' lo3 rs (.slice ra rs.length rc) (.slice ka ks.length kc) ks ln (.slice xa ln.stats.length xc) (by omega) (by omega) hfit hsm W3 (by omega) (by omega) (by omega) hgR hc0 hc1 ⟨hc2 0 _ rfl, hc2 1 _ rfl, hc2 2 _ rfl⟩ hRk hKk hTk)
 have Hs3 := Lib.hid hs3
 have Hb3 := Lib.hid hb3
 have Hsum3 := Lib.hid hsum3
 obtain ⟨S, hS⟩ : ∃ S, S = w.heap.size + 1 := ⟨_, rfl⟩
 have HS := Lib.hid hS
 clear hW2 hs2 hb2 hsum2 hW3 hs3 hb23 hb3 hsum3 hc0 hc1 hc2 hlift hRk hKk hTk hgR hfit hsm hR hK hT C
 gi_wp2_with fail
 rw [← hS]
 clear hS
 refine wpIn_rangeFunc_ownG rfl (by omega) (gf := 149) (lb := #[.pointer (some ⟨W2.heap.size, 0, none⟩), .pointer (some ⟨W2.heap.size + 1, 0, none⟩), .pointer (some ⟨W2.heap.size + 2, 0, none⟩)]) rfl trivial (enters_of Tryz.func149 (by kernel_rfl) rfl)
  HSt.out (fun h k => h.trans k) ?keep (Below.refl _ _) (fun _ => rfl)
  (fun pre W => W.heap[S]? = some (.cells #[.int .i64 (sumI (pre.map fun x => givenI ln.stats x.1))] 3 (0, 0)) ∧ Below w.heap.size w W) (fun _ _ _ => False) ?own (fun _ _ _ _ _ hs _ _ => hs) ?start
  (fun x => { tmps := #[.slice ra rs.length rc, .slice ka ks.length kc, .agg #[.string ln.player, .int .i64 ln.week, .slice xa ln.stats.length xc], undef, undef, .pointer (some ⟨w.heap.size, 0, none⟩), .int .i64 0, .pointer (some ⟨S, 0, none⟩), undef, .int .i64 (givenI ln.stats x.1),
   .slice ra rs.length rc, .slice ka ks.length kc, .agg #[.string ln.player, .int .i64 ln.week, .slice xa ln.stats.length xc], .func (.func 149) #[] #[.pointer (some ⟨W2.heap.size, 0, none⟩), .pointer (some ⟨W2.heap.size + 1, 0, none⟩), .pointer (some ⟨W2.heap.size + 2, 0, none⟩)],
   .string x.1.key, .int .i64 (givenI ln.stats x.1), undef, undef, undef, undef], defers := [] }) ?assign ?body ?done ?stop
 case keep =>
  intro W l o o' hl ho _ _; have hg := grownBy_putObj' W l o'; have h3 := Hs3.out; refine ⟨hg.size, fun k hk _ => hg.block k ?_ ?_⟩
  ·have := lt_of_heap ho; omega
  ·intro e; cases e; omega
 case own =>
  intro s A B row hs hg hr; have h3 := Hs3.out; have h4 := HS.out; refine ⟨(hg.block S (lt_of_heap hs.1) fun e => ?_).trans hs.1, hs.2.grown hg hs.2.size fun r e => ?_⟩
  ·have := (hr S e.symm).1; omega
  ·have := (hr r e).1; omega
 case start => exact ⟨by rw [HS.out]; exact Hsum3.out, Hb3.out⟩
 case assign =>
  intro l x W K hK; unfold encG; gi_wp2
  exact hK
 case body =>
  rintro l pre x W ⟨hc, hB⟩ hl; have hsum := gr_sum pre; have hx := x.2.giv; have Hsn := Lib.hid (show sumI ((pre ++ [x]).map fun x => givenI ln.stats x.1) = sumI (pre.map fun x => givenI ln.stats x.1) + givenI ln.stats x.1 by rw [List.map_append]; exact sumI_snoc _ _)
  generalize sumI (pre.map fun x => givenI ln.stats x.1) = A at hsum hc Hsn
  generalize givenI ln.stats x.1 = G at hx Hsn
  have z0 := cell_at hc 0 rfl; have f0 := free_of hc 0; have Hc := Lib.hid hc; have hwr : IntKind.i64.wrap (A + G) = A + G := IntWalk.i64_in _ (by omega)
  clear hc; gi_wp2
  refine ⟨(KeepsOthers.setCell _ _ _).from _, ⟨by simp, fun k _ hk => ?_⟩, ?_, hB.trans ((Below.refl _ W).setCell (p := ⟨S, 0, none⟩) (by have := HS.out; show w.heap.size ≤ S; omega) _)⟩
  ·exact Below.heap_setCell W _ _ k (by simpa using fun e => hk (by rw [e, HS.out]))
  ·rw [Hsn.out]
   simp [World.setCell, Array.getElem?_modify, Hc.out]
 case done =>
  rintro D xs W hD hS ⟨hc, hB⟩ hK
  have Hres := Lib.hid (show sumI (xs.map fun x => givenI ln.stats x.1) = ptsI rs ks ln.stats by
   unfold ptsI; rw [← hS, List.map_map]; rfl)
  rw [Hres.out] at hc
  have z0 := cell_at hc 0 rfl; clear hc hS; gi_wp2
  refine ⟨by simp, .inl ⟨_, _, rfl, run_takeDeferred hK, ?_⟩⟩
  exact ⟨_, results_tmp rfl _ _ _, rfl, hB.trans (belowK_b (w := w) (Nat.le_refl _) W D _ _ (by have := Hs3.out; omega) hK rfl rfl)⟩
 case stop =>
  rintro D c pre W _ _ h _; exact h.elim
end Go.Proofs.YtfcaokpadodijaaGreat
namespace Go.Proofs.YtfcaokpadodijaaGreat
open Go.RowKit

theorem firstE_all0 {l : List Int} (h : firstE l = 0) : ∀ x ∈ l, x = 0 := by
 induction l with
 | nil => intro x hx; cases hx
 | cons y ys ih =>
  unfold firstE at h
  by_cases hy : y = 0
  ·rw [if_pos hy] at h
   intro x hx; rcases List.mem_cons.1 hx with rfl | hx
   ·exact hy
   ·exact ih h x hx
  ·rw [if_neg hy] at h; exact absurd h hy
theorem eachE_ok {n : Nat} {most : Int} {f : Nat → Int} (h : eachE n most f = 0) : (n : Int) ≤ most ∧ ∀ i, i < n → f i = 0 := by
 unfold eachE at h
 by_cases hm : most < (n : Int)
 ·rw [if_pos hm] at h; cases h
 ·rw [if_neg hm] at h
  refine ⟨by omega, fun i hi => firstE_all0 h _ (List.mem_map.2 ⟨i, List.mem_range.2 (by simpa using hi), rfl⟩)⟩
theorem unlessE_ok {b : Bool} {e : Int} (he : e ≠ 0) (h : unlessE b e = 0) : b = true := by
 cases b
 ·simp [unlessE] at h; exact absurd h he
 ·rfl
theorem wrongF_ok {n d : Int} (h : wrongF n d 10000 = 0) : 0 < d ∧ d ≤ 100 ∧ -1000000 ≤ n * ((100 : Int).tdiv d) ∧ n * ((100 : Int).tdiv d) ≤ 1000000 := by
 unfold wrongF at h
 by_cases h1 : d ≤ 0 ∨ gcdI n d ≠ 1
 ·rw [if_pos h1] at h; cases h
 rw [if_neg h1] at h
 by_cases h2 : (100 : Int) % d ≠ 0 ∨ ¬ (-10000 * d ≤ n ∧ n ≤ 10000 * d)
 ·rw [if_pos h2] at h; cases h
 have hd : 0 < d := by omega
 have h3 : (100 : Int) % d = 0 := by omega
 have h4 : -10000 * d ≤ n ∧ n ≤ 10000 * d := by omega
 have h5 : d * ((100 : Int) / d) = 100 := Int.mul_ediv_cancel' (Int.dvd_of_emod_eq_zero h3)
 rw [Int.tdiv_eq_ediv_of_nonneg (by omega)]
 have h6 : 0 ≤ (100 : Int) / d := Int.ediv_nonneg (by omega) (by omega)
 generalize (100 : Int) / d = q at h5 h6 ⊢
 have h7 := Int.mul_le_mul_of_nonneg_right h4.2 h6
 have h8 := Int.mul_le_mul_of_nonneg_right h4.1 h6
 rw [Int.mul_assoc, h5] at h7 h8
 exact ⟨hd, den_100 h3, by omega, by omega⟩
/-- What right rules are. -/
theorem rules_ok {rs : List RD} (h : chkRl rs = 0) : rs.length ≤ 100 ∧ ∀ r ∈ rs, (1 ≤ r.kind ∧ r.kind ≤ 4) ∧ (r.kind = 2 → 1 ≤ r.many) ∧ wrongF r.num r.den 10000 = 0 := by
 obtain ⟨h1, h2⟩ := eachE_ok h
 refine ⟨by omega, fun r hr => ?_⟩
 obtain ⟨i, hi⟩ := List.getElem?_of_mem hr
 have h3 := h2 i (List.getElem?_eq_some_iff.1 hi).1
 unfold rlF at h3
 rw [rlAt_some hi] at h3
 have hk := unlessE_ok (by omega) (firstE_all0 h3 (unlessE (betwB r.kind 1 4) 4) (by simp))
 have hm := unlessE_ok (by omega) (firstE_all0 h3 (unlessE (manyB r.kind r.many) 1) (by simp))
 have hw := firstE_all0 h3 (wrongF r.num r.den 10000) (by simp)
 unfold betwB at hk
 simp only [Bool.and_eq_true, decide_eq_true_eq] at hk
 refine ⟨hk, fun h2 => ?_, hw⟩
 unfold manyB betwB at hm
 simp [h2] at hm
 exact hm.1
theorem sorted_step {ps : List ByteArray} (h : ∀ i, i + 1 < ps.length → ltS (keyAt ps i) (keyAt ps (i + 1)) = true) : SortedK ps := by
 intro i j hij hj
 obtain ⟨d, rfl⟩ : ∃ d, j = i + 1 + d := ⟨j - (i + 1), by omega⟩
 induction d with
 | zero => exact h i hj
 | succ d ih => exact ltS_trans (ih (by omega) (by omega)) (h (i + 1 + d) (by omega))
/-- What a right line is. -/
theorem line_ok {l : LD} (h : lnE l = 0) : (∀ t ∈ l.stats, -100000 ≤ t.count ∧ t.count ≤ 100000) ∧ SortedK (l.stats.map TD.name) := by
 have h1 := firstE_all0 h (eachE l.stats.length 40 (tdF l.stats)) (by simp)
 obtain ⟨_, h2⟩ := eachE_ok h1
 refine ⟨fun t ht => ?_, sorted_step fun i hi => ?_⟩
 ·obtain ⟨i, hi⟩ := List.getElem?_of_mem ht
  have h3 := h2 i (List.getElem?_eq_some_iff.1 hi).1; unfold tdF at h3
  rw [tdAt_some hi] at h3
  have hk := unlessE_ok (by omega) (firstE_all0 h3 (unlessE (betwB t.count (-100000) 100000) 1) (by simp))
  unfold betwB at hk
  simpa using hk
 ·have hl : i + 1 < l.stats.length := by simpa using hi
  have h3 := h2 (i + 1) hl; have ha : l.stats[i]? = some l.stats[i] := List.getElem?_eq_getElem (by omega)
  have hb : l.stats[i + 1]? = some l.stats[i + 1] := List.getElem?_eq_getElem hl
  unfold tdF at h3
  rw [Nat.add_sub_cancel, tdAt_some hb, tdAt_some ha] at h3
  have hk := unlessE_ok (by omega) (firstE_all0 h3 (unlessE (decide (i + 1 = 0) || ltS l.stats[i].name l.stats[i + 1].name) 7) (by simp))
  have e1 : keyAt (l.stats.map TD.name) i = l.stats[i].name := keyAt_some (by rw [List.getElem?_map, ha]; rfl)
  have e2 : keyAt (l.stats.map TD.name) (i + 1) = l.stats[i + 1].name := keyAt_some (by rw [List.getElem?_map, hb]; rfl)
  rw [e1, e2]; simpa using hk
theorem cnt_small {ts : List TD} (h : ∀ t ∈ ts, -100000 ≤ t.count ∧ t.count ≤ 100000) (stat : ByteArray) : -100000 ≤ cntB ts stat ∧ cntB ts stat ≤ 100000 := by
 unfold cntB
 by_cases hk : knownB (ts.map TD.name) stat = true
 ·rw [if_pos hk]
  have hq := known_lt hk; rw [List.length_map] at hq
  rw [tdAt_some (List.getElem?_eq_getElem hq)]; exact h _ (List.getElem_mem hq)
 ·rw [if_neg hk]; omega
theorem mul_small {a b A B : Int} (ha : -A ≤ a ∧ a ≤ A) (hb : -B ≤ b ∧ b ≤ B) : -(A * B) ≤ a * b ∧ a * b ≤ A * B := by
 have h1 : a.natAbs ≤ A.natAbs := by omega
 have h2 : b.natAbs ≤ B.natAbs := by omega
 have h3 := Nat.mul_le_mul h1 h2
 rw [← Int.natAbs_mul, ← Int.natAbs_mul] at h3
 have h4 : 0 ≤ A * B := Int.mul_nonneg (by omega) (by omega)
 omega
/-- Right rules and a right line fit. -/
theorem fit_of {rs : List RD} {l : LD} (hr : chkRl rs = 0) (hl : lnE l = 0) : ∀ r ∈ rs, FitR l.stats r := by
 intro r hm
 obtain ⟨_, h2⟩ := rules_ok hr
 obtain ⟨h3, h4, h5⟩ := h2 r hm
 obtain ⟨w1, w2, w3, w4⟩ := wrongF_ok h5
 have hc := cnt_small (line_ok hl).1 r.stat
 have ht := times_small (kind := r.kind) hc h4
 have hg := mul_small (A := 1000000) (B := 100000) ⟨w3, w4⟩ ht
 exact ⟨w1, w2, ⟨w3, w4⟩, hc, h4, by unfold givenI; omega⟩
theorem pts_bound {rs : List RD} {ks : List ByteArray} {ts : List TD} (h : ∀ r ∈ rs, FitR ts r) (hn : rs.length ≤ 100) : -10000000000000 ≤ ptsI rs ks ts ∧ ptsI rs ks ts ≤ 10000000000000 := by
 have := sumI_bound (l := (rs.filter (appB ks)).map (givenI ts)) fun x hx => by
  obtain ⟨r, hr, rfl⟩ := List.mem_map.1 hx; exact (h r ((List.mem_filter.1 hr).1)).giv
 have h2 := List.length_filter_le (appB ks) rs
 rw [List.length_map] at this
 unfold ptsI
 omega
end Go.Proofs.YtfcaokpadodijaaGreat
