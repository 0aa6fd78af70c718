/- score.Best: the best fills, and what they bring. -/
import Derived.Test.YtfcaokpadodijaaGreatMgar
import Derived.Test.YtfcaokpadodijaaGreatMgat
import Derived.Test.YtfcaokpadodijaaGreatMgae
import Derived.Test.YtfcaokpadodijaaGreatMgap
import Derived.Test.YtfcaokpadodijaaGreatMgaq
import Derived.Test.YtfcaokpadodijaaGreatMgan
import Derived.Test.YtfcaokpadodijaaGreatMgal
/- The greatest sum of those who can be placed at once. -/
namespace Go.Proofs.YtfcaokpadodijaaGreat
open Go.RowKit Go.Proofs.YtfcaokpadodijaaGreat.Mat

def wAt (cs : List ScD) (i : Nat) : Int := wthC (scAt cs i)
theorem sumW_small {w : Nat → Int} (h : ∀ i, -1000000 ≤ w i ∧ w i ≤ 1000000) : ∀ l : List Nat, -(1000000 * (l.length : Int)) ≤ sumW w l ∧ sumW w l ≤ 1000000 * (l.length : Int)
 | [] => by simp [sumW]
 | x :: l => by
  have h1 := sumW_small h l; have h2 := h x; have e : sumW w (x :: l) = w x + sumW w l := rfl
  rw [e, List.length_cons, Int.natCast_add]; omega
theorem grd_sub {can : List Nat → Bool} : ∀ (xs G : List Nat), (∀ x ∈ grd can G xs, x ∈ G ∨ x ∈ xs) ∧ (grd can G xs).length ≤ G.length + xs.length
 | [], G => ⟨fun x h => .inl h, by simp [grd]⟩
 | y :: xs, G => by
  obtain ⟨h1, h2⟩ := grd_sub (can := can) xs (if can (y :: G) then y :: G else G)
  refine ⟨fun x h => ?_, ?_⟩
  ·rcases h1 x h with h | h
   ·split at h
    ·rcases List.mem_cons.1 h with rfl | h
     ·exact .inr (by simp)
     ·exact .inl h
    ·exact .inl h
   ·exact .inr (List.mem_cons_of_mem _ h)
  ·unfold grd
   refine Nat.le_trans h2 ?_; split <;> simp <;> omega
theorem fitC_at {cs : List ScD} (h : ∀ c ∈ cs, FitW c) (i : Nat) : -1000000 ≤ wAt cs i ∧ wAt cs i ≤ 1000000 := by
 unfold wAt scAt
 cases hi : cs[i]? with
 | none => exact wth_small (fun hz => absurd rfl hz)
 | some c => exact wth_small (h c (List.mem_of_getElem? hi))
set_option maxRecDepth 100000 in
set_option maxHeartbeats 4000000 in
theorem greatest_calls (fits : Nat → Nat → Bool) (P gf : Nat) (caps : Array Value) (lo lo' : Nat) (v u : Value) (cs : List ScD) (left : List Nat) (w : World) (hC : Scs w lo v cs) (hL : Nums w lo' u left) (hP : P ≤ 1000) (hn : cs.length ≤ 1000) (hlen : left.length ≤ 1000)
  (hnd : left.Nodup) (hlt : ∀ x ∈ left, x < cs.length) (hF : ∀ c ∈ cs, FitW c)
  (hfits : ∀ (W : World) (a p : Nat), a < cs.length → p < P → Below w.heap.size w W → Calls Tryz.prog gf (#[.int .i64 (a : Int), .int .i64 (p : Int)] ++ caps) W (BoolIs (fits a p) W))
  (egf : ∀ args w, (callFunc gf args).run Tryz.prog w = .ok (.enter gf args) w) :
  Calls Tryz.prog 99 #[v, u, .int .i64 (P : Int), .func (.func gf) #[] caps] w (IntBelow (sumW (wAt cs) (grd (canP fits P) [] left)) w) := by
 have CP := Lib.hid (placing_calls fits cs.length P gf caps w hP)
 have CQ := Lib.hid (fun X2 X3 X5 X6 T H hT hX A who W hw hA hp => place_calls fits cs.length P w.heap.size X2 X3 X5 X6 T H P P gf caps w hP (by omega) hT hX hfits egf A who W hw hA hp)
 have HC := Lib.hid hC
 have HL := Lib.hid hL
 have Hnd := Lib.hid hnd
 have Hlt := Lib.hid hlt
 have HF := Lib.hid hF
 have Hfc := Lib.hid (fitC_at hF)
 have HG := Lib.hid (fun k => grd_sub (can := canP fits P) (left.take k) [])
 have HS := Lib.hid (fun xs x => grd_snoc (canP fits P) xs [] x)
 obtain ⟨a, c, rfl⟩ := NRows.shape hC
 obtain ⟨a', c', rfl⟩ := nums_shape hL
 clear hC hL hnd hlt hF hfits
 go_enter Tryz.func99, Tryz.ntmps99
 go_wp2_with fail
 refine CP.out.mono ?_
 rintro e w1 ⟨X2, X3, X5, X6, T, H, rfl, hTH, hX, hpl⟩
 have HTH := Lib.hid hTH
 have HX := Lib.hid hX
 have CR := Lib.hid (fun A who W hw hA hp => CQ.out X2 X3 X5 X6 T H hTH hX A who W hw hA hp)
 have Hpl := Lib.hid hpl
 clear hTH hX hpl CQ CP
 go_wp2_with fail
 go_loopw [10, 18] (fun s i wr => ∃ k : Nat, k ≤ left.length ∧ i = .int .i64 k ∧ s = .int .i64 (sumW (wAt cs) (grd (canP fits P) [] (left.take k))) ∧ Hid (Plcd fits cs.length P w.heap.size X2 X3 X5 X6 T H P P gf caps w (grd (canP fits P) [] (left.take k)) wr)) (fun _ i _ => left.length - (intOf i).toNat)
 case atStart => exact ⟨0, Nat.zero_le _, rfl, rfl, Hpl⟩
 case round =>
  clear Hpl; obtain ⟨k, hk, rfl, rfl, Hp⟩ := hrel; have hb := Hp.out.choose_spec.2.2.2; by_cases hltk : k < left.length
  ·obtain ⟨x, hx⟩ : ∃ x, left[k]? = some x := ⟨left[k], List.getElem?_eq_getElem hltk⟩
   have Htk := Lib.hid (show left.take (k + 1) = left.take k ++ [x] by rw [List.take_succ_eq_append_getElem hltk, (List.getElem?_eq_some_iff.1 hx).2])
   have hxl := Hlt.out x (List.mem_of_getElem? hx)
   have hxG : x ∉ grd (canP fits P) [] (left.take k) := fun h => by
    rcases (HG.out k).1 x h with h | h
    ·simp at h
    ·have h1 := (List.Sublist.nodup (List.take_sublist (k + 1) left) Hnd.out)
     rw [Htk.out, List.nodup_append] at h1
     exact h1.2.2 x h x (by simp) rfl
   have Hsn := Lib.hid (show grd (canP fits P) [] (left.take (k + 1)) = if canP fits P (x :: grd (canP fits P) [] (left.take k)) then x :: grd (canP fits P) [] (left.take k) else grd (canP fits P) [] (left.take k) by rw [Htk.out]; exact HS.out _ _)
   have Hgl := Lib.hid (show (grd (canP fits P) [] (left.take k)).length ≤ 1000 by have := (HG.out k).2; simp at this; omega)
   have hcx : wr.cell? ⟨0, 0, none⟩ = wr.cell? ⟨0, 0, none⟩ := rfl
   obtain ⟨d, hd⟩ : ∃ d, cs[x]? = some d := ⟨_, List.getElem?_eq_getElem hxl⟩
   have Hw := Lib.hid (show wAt cs x = wthC d by unfold wAt; rw [scAt_some hd])
   have hfd := Lib.hid (HF.out d (List.mem_of_getElem? hd)); rcases scs_at HC.out with ⟨_, h⟩ | ⟨g, off, cap, e, _, hg, _, hcell⟩
   ·rw [h] at hxl; simp at hxl
   simp only [Value.slice.injEq] at e
   obtain ⟨rfl, -, rfl⟩ := e; obtain ⟨pv, q0, q1, q2, q3, q4, hpv⟩ := hcell x d hd; obtain ⟨pa, pc, rfl⟩ := strs_shape hpv; rcases nums_at HL.out with ⟨_, h⟩ | ⟨g', off', cap', e, _, hg', _, hcell'⟩
   ·rw [h] at hltk; simp at hltk
   simp only [Value.slice.injEq] at e
   obtain ⟨rfl, -, rfl⟩ := e; have n0 := below_cell hb (hcell' k x hx); have Q := Lib.hid (show ∀ W, Below w.heap.size w W → W.cell? ⟨g, off + x * 5, none⟩ = some (.string d.who) ∧ W.cell? ⟨g, off + x * 5 + 1, none⟩ = some (.slice pa d.pos.length pc) ∧ W.cell? ⟨g, off + x * 5 + 2, none⟩ = some (.int .i64 d.num) ∧ W.cell? ⟨g, off + x * 5 + 3, none⟩ = some (.int .i64 d.den) ∧ W.cell? ⟨g, off + x * 5 + 4, none⟩ = some (.bool d.played) from fun W h => ⟨below_cell h q0, below_cell h q1, below_cell h q2, below_cell h q3, below_cell h q4⟩)
   have hltk' : (k : Int) < (left.length : Int) := by omega
   have hxl' : (x : Int) < (cs.length : Int) := by omega
   have HxG := Lib.hid hxG; clear hx hd hcell hcell' q0 q1 q2 q3 q4 hpv hxG hcx hb; obtain ⟨G, hG⟩ : ∃ G, grd (canP fits P) [] (left.take k) = G := ⟨_, rfl⟩
   rw [hG] at Hp HxG Hsn Hgl ⊢
   clear hG; go_wp2_with fail
   refine (CR.out G x _ hxl HxG.out Hp.out).mono ?_; rintro e w2 ⟨r, rfl, hr, hp2⟩; have hb2 := hp2.choose_spec.2.2.2
   have hcan : canP fits P (x :: G) = r := by
    rw [Bool.eq_iff_iff, canP_iff]; exact hr.symm
   have Hsn' := Lib.hid (hcan ▸ Hsn.out)
   have Hp2 := Lib.hid hp2; have hsm := sumW_small Hfc.out G; have hwx := Hfc.out x; rw [Hw.out] at hwx
   have Hsx := Lib.hid (show sumW (wAt cs) (x :: G) = sumW (wAt cs) G + wthC d by have := Hw.out; show wAt cs x + _ = _; omega)
   have hgl := Hgl.out; clear hr hp2 hcan Hsn n0; cases r
   ·go_wp2_with fail
    go_roundw
    case rel => exact ⟨k + 1, by omega, by go_num, by rw [Hsn'.out]; rfl, Lib.hid (by rw [Hsn'.out]; exact Hp2.out)⟩
    case measure => simp [intOf]; omega
   ·obtain ⟨m0, m1, m2, m3, m4⟩ := Q.out _ hb2
    obtain ⟨S, hS⟩ : ∃ S, sumW (wAt cs) G = S := ⟨_, rfl⟩
    rw [hS] at Hsx hsm ⊢
    obtain ⟨y, hy⟩ : ∃ y, wthC d = y := ⟨_, rfl⟩
    have CW := Lib.hid (fun W => wrth_calls d pa d.pos.length pc W hfd.out)
    rw [hy] at Hsx hwx CW
    have w1 : IntKind.i64.wrap (S + y) = S + y := IntWalk.i64_in _ (by omega)
    clear hS hy; go_wp2_with fail
    refine (CW.out _).mono ?_; rintro e w3 ⟨rfl, hb3⟩; go_wp2_with fail
    go_roundw
    case rel => exact ⟨k + 1, by omega, by go_num, by rw [Hsn'.out]; exact congrArg _ Hsx.out.symm, Lib.hid (by rw [Hsn'.out]; exact Hp2.out.below HTH.out.1 hb3)⟩
    case measure => simp [intOf]; omega
  ·obtain rfl : k = left.length := by omega
   rw [List.take_length]; go_wp2_with fail
   go_ret
   exact ⟨rfl, hb⟩
end Go.Proofs.YtfcaokpadodijaaGreat
/- Who suits which slot, looked up in a table. -/
namespace Go.Proofs.YtfcaokpadodijaaGreat
open Go.RowKit

theorem info_bls : (Tryz.prog.info? 152).map (fun i => (i.zero, i.size, i.bytes)) = some (some (.slice none 0 0), 1, 24) := by kernel_rfl
theorem make_rows (P : Nat) (hP : P ≤ 1000) (w : World) : (Instr.makeSlice 154 (.int .i64 (P : Int)) (.int .i64 (P : Int))).run Tryz.prog w = .ok (.slice (some ⟨w.heap.size, 0, none⟩) P P) (w.alloc (.cells (madeCells #[.slice none 0 0] P) 152)) :=
 run_make_row' 154 152 (.slice none 0 0) 24 Tryz.underlying154 info_bls rfl .i64 .i64 P (by omega) (by omega) w
/-- Does scorer a suit slot p? -/
def suitAt (cs : List ScD) (ss : List SlD) (a p : Nat) : Bool := suitB (scAt cs a) (slAt ss p)
def rowB (cs : List ScD) (ss : List SlD) (a m : Nat) : List Bool := (List.range m).map (suitAt cs ss a)
def Bls (w : World) (v : Value) (l : List Bool) : Prop := Rows w 4 0 1 v (l.map fun b => [.bool b])
/-- The table: the first k rows are full. -/
def TabS (cs : List ScD) (ss : List SlD) (g n k : Nat) (w : World) : Prop :=
 ∃ cur : Array Value, w.heap[g]? = some (.cells cur 152 (0, 0)) ∧ ∀ a, a < n → ∃ v, cur[a]? = some v ∧ (a < k → Bls w v (rowB cs ss a ss.length)) ∧ (k ≤ a → v = .slice none 0 0)
theorem TabS.below {cs : List ScD} {ss : List SlD} {g n k : Nat} {w w' : World} (h : TabS cs ss g n k w) (hb : Below w.heap.size w w') : TabS cs ss g n k w' := by
 obtain ⟨cur, h1, h2⟩ := h
 refine ⟨cur, cells_later h1 hb, fun a ha => ?_⟩
 obtain ⟨v, a1, a2, a3⟩ := h2 a ha
 exact ⟨v, a1, fun h => Rows.below (a2 h) hb, a3⟩
set_option maxHeartbeats 1000000 in
theorem fitting1_calls (cs : List ScD) (ss : List SlD) (g n X5 : Nat) (a p : Nat) (w : World) (hT : TabS cs ss g n n w) (hX : w.cell? ⟨X5, 0, none⟩ = some (.slice (some ⟨g, 0, none⟩) n n)) (ha : a < n) (hp : p < ss.length) :
  Calls Tryz.prog 126 #[.int .i64 (a : Int), .int .i64 (p : Int), .pointer (some ⟨X5, 0, none⟩)] w (BoolIs (suitAt cs ss a p) w) := by
 obtain ⟨cur, h1, h2⟩ := hT
 obtain ⟨v, a1, a2, -⟩ := h2 a ha
 have hr := a2 ha
 have c1 := cell_at h1 a a1
 have ha' : (a : Int) < (n : Int) := by omega
 have hp' : (p : Int) < (ss.length : Int) := by omega
 rcases rows_at hr with ⟨_, e⟩ | ⟨bg, off, cap, e, _, hbg, hc⟩
 ·have h0 : ss.length = 0 := by
   have := congrArg List.length e
   simpa [rowB] using this
  omega
 have c2 := hc p 0 (.bool (suitAt cs ss a p)) (by simp [rowB, hp])
 have hl : ((rowB cs ss a ss.length).map fun b => [Value.bool b]).length = ss.length := by simp [rowB]
 rw [hl] at e
 subst e
 simp only [Nat.mul_one, Nat.add_zero] at c2
 clear hc hr a1 a2 h1 h2 hl
 go_enter Tryz.func126, Tryz.ntmps126
 go_wp2_with fail
 go_ret
 exact ⟨rfl, Below.refl _ _⟩
/-- The memory that a round of the table reads. -/
def Q8 (cs : List ScD) (g n X5 X7 X9 : Nat) (cur : Array Value) (c : ScD) (s : SlD) (xa : Option Addr) (xc : Nat) (pa : Option Addr) (pc : Nat) (W : World) : Prop :=
 W.heap[X5]? = some (.cells #[.slice (some ⟨g, 0, none⟩) n n] 154 (0, 0)) ∧ W.heap[g]? = some (.cells cur 152 (0, 0)) ∧ W.heap[X7]? = some (.cells #[.string c.who, .slice xa c.pos.length xc, .int .i64 c.num, .int .i64 c.den, .bool c.played] 77 (0, 0)) ∧ W.heap[X9]? = some (.cells #[.string s.key, .slice pa s.pos.length pc] 72 (0, 0))
theorem Q8.below {cs : List ScD} {g n X5 X7 X9 : Nat} {cur : Array Value} {c : ScD} {s : SlD} {xa : Option Addr} {xc : Nat} {pa : Option Addr} {pc : Nat} {W W' : World} (h : Q8 cs g n X5 X7 X9 cur c s xa xc pa pc W) (hb : Below W.heap.size W W') : Q8 cs g n X5 X7 X9 cur c s xa xc pa pc W' :=
 ⟨keep_heap h.1 hb, keep_heap h.2.1 hb, keep_heap h.2.2.1 hb, keep_heap h.2.2.2 hb⟩
theorem Q8.grown {cs : List ScD} {g n X5 X7 X9 base k : Nat} {cur : Array Value} {c : ScD} {s : SlD} {xa : Option Addr} {xc : Nat} {pa : Option Addr} {pc : Nat} {W W' : World} {v : Value} {xs : List Value} (h : Q8 cs g n X5 X7 X9 cur c s xa xc pa pc W) (hown : W.ownsRow base 4 1 v k xs) (hg : W.grownBy W' v.ownBlock) : Q8 cs g n X5 X7 X9 cur c s xa xc pa pc W' := by
 have key : ∀ (X : Nat) (cu : Array Value) (T : Nat), W.heap[X]? = some (.cells cu T (0, 0)) → T ≠ 4 → W'.heap[X]? = some (.cells cu T (0, 0)) := fun X cu T hX hT => by
  rw [← hX]; refine hg.block X (lt_of_heap hX) fun e => ?_
  obtain ⟨_, cur', h'⟩ := own_block hown X e.symm; rw [hX] at h'
  cases h'
  exact hT rfl
 exact ⟨key _ _ _ h.1 (by decide), key _ _ _ h.2.1 (by decide), key _ _ _ h.2.2.1 (by decide), key _ _ _ h.2.2.2 (by decide)⟩
def S8C (g n X5 X7 X9 i : Nat) (v : Value) (c : ScD) (s : SlD) (xa : Option Addr) (xc : Nat) (pa : Option Addr) (pc : Nat) (w' : World) : Prop :=
 w'.cell? ⟨X5, 0, none⟩ = some (.slice (some ⟨g, 0, none⟩) n n) ∧ w'.cell? ⟨g, i, none⟩ = some v ∧ w'.cell? ⟨X7, 0, none⟩ = some (.string c.who) ∧ w'.cell? ⟨X7, 1, none⟩ = some (.slice xa c.pos.length xc) ∧ w'.cell? ⟨X7, 2, none⟩ = some (.int .i64 c.num) ∧ w'.cell? ⟨X7, 3, none⟩ = some (.int .i64 c.den) ∧ w'.cell? ⟨X7, 4, none⟩ = some (.bool c.played) ∧ w'.cell? ⟨X9, 0, none⟩ = some (.string s.key) ∧ w'.cell? ⟨X9, 1, none⟩ = some (.slice pa s.pos.length pc)
theorem Q8.cells {cs : List ScD} {g n X5 X7 X9 i : Nat} {cur : Array Value} {v : Value} {c : ScD} {s : SlD} {xa : Option Addr} {xc : Nat} {pa : Option Addr} {pc : Nat} {W : World} (h : Q8 cs g n X5 X7 X9 cur c s xa xc pa pc W) (hv : cur[i]? = some v) : S8C g n X5 X7 X9 i v c s xa xc pa pc W :=
 ⟨cell_at h.1 0 rfl, cell_at h.2.1 i hv, cell_at h.2.2.1 0 rfl, cell_at h.2.2.1 1 rfl, cell_at h.2.2.1 2 rfl, cell_at h.2.2.1 3 rfl, cell_at h.2.2.1 4 rfl, cell_at h.2.2.2 0 rfl, cell_at h.2.2.2 1 rfl⟩
def o97_8 : Array Go.Oper := #[
 ⟨some 26, .load 154 (.tmp 5), 154, "best.go:124", #[], none⟩,
 ⟨some 27, .move (.tmp 6), 3, "best.go:124", #[], none⟩,
 ⟨some 28, .load 154 (.tmp 5), 154, "best.go:124", #[], none⟩,
 ⟨some 29, .move (.tmp 6), 3, "best.go:124", #[], none⟩,
 ⟨some 30, .indexAddr 154 (.tmp 28) (.tmp 29), 0, "best.go:124", #[⟨2, .data⟩, ⟨3, .data⟩], none⟩,
 ⟨some 31, .load 152 (.tmp 30), 152, "best.go:124", #[⟨4, .data⟩], none⟩,
 ⟨some 32, .load 77 (.tmp 7), 77, "best.go:124", #[], none⟩,
 ⟨some 33, .load 72 (.tmp 9), 72, "best.go:124", #[], none⟩,
 ⟨some 34, .call { callee := .value (.func 77), args := #[.tmp 32, .tmp 33], argTypes := #[77, 72] }, 4, "best.go:124", #[⟨6, .data⟩, ⟨7, .data⟩], none⟩,
 ⟨some 35, .buildSlice 152 1 #[(0, .tmp 34)], 152, "best.go:124", #[⟨8, .data⟩], none⟩,
 ⟨some 36, .call { callee := .builtin .append, args := #[.tmp 31, .tmp 35], argTypes := #[152, 152] }, 152, "best.go:124", #[⟨5, .data⟩, ⟨9, .data⟩, ⟨8, .chain⟩], none⟩,
 ⟨some 37, .indexAddr 154 (.tmp 26) (.tmp 27), 0, "best.go:124", #[⟨0, .data⟩, ⟨1, .data⟩, ⟨0, .phase⟩, ⟨1, .phase⟩, ⟨2, .phase⟩, ⟨3, .phase⟩, ⟨4, .phase⟩, ⟨5, .phase⟩, ⟨6, .phase⟩, ⟨7, .phase⟩, ⟨8, .phase⟩, ⟨9, .phase⟩, ⟨10, .phase⟩], none⟩,
 ⟨none, .store 152 (.tmp 37) (.tmp 36), 0, "best.go:124", #[⟨11, .data⟩, ⟨10, .data⟩, ⟨10, .chain⟩, ⟨0, .phase⟩, ⟨1, .phase⟩, ⟨2, .phase⟩, ⟨3, .phase⟩, ⟨4, .phase⟩, ⟨5, .phase⟩, ⟨6, .phase⟩, ⟨7, .phase⟩, ⟨8, .phase⟩, ⟨9, .phase⟩, ⟨10, .phase⟩], none⟩]
theorem o97_8_0 : o97_8[0]? = some (⟨some 26, .load 154 (.tmp 5), 154, "best.go:124", #[], none⟩ : Go.Oper) := rfl
theorem o97_8_1 : o97_8[1]? = some (⟨some 27, .move (.tmp 6), 3, "best.go:124", #[], none⟩ : Go.Oper) := rfl
theorem o97_8_2 : o97_8[2]? = some (⟨some 28, .load 154 (.tmp 5), 154, "best.go:124", #[], none⟩ : Go.Oper) := rfl
theorem o97_8_3 : o97_8[3]? = some (⟨some 29, .move (.tmp 6), 3, "best.go:124", #[], none⟩ : Go.Oper) := rfl
theorem o97_8_4 : o97_8[4]? = some (⟨some 30, .indexAddr 154 (.tmp 28) (.tmp 29), 0, "best.go:124", #[⟨2, .data⟩, ⟨3, .data⟩], none⟩ : Go.Oper) := rfl
theorem o97_8_5 : o97_8[5]? = some (⟨some 31, .load 152 (.tmp 30), 152, "best.go:124", #[⟨4, .data⟩], none⟩ : Go.Oper) := rfl
theorem o97_8_6 : o97_8[6]? = some (⟨some 32, .load 77 (.tmp 7), 77, "best.go:124", #[], none⟩ : Go.Oper) := rfl
theorem o97_8_7 : o97_8[7]? = some (⟨some 33, .load 72 (.tmp 9), 72, "best.go:124", #[], none⟩ : Go.Oper) := rfl
theorem o97_8_8 : o97_8[8]? = some (⟨some 34, .call { callee := .value (.func 77), args := #[.tmp 32, .tmp 33], argTypes := #[77, 72] }, 4, "best.go:124", #[⟨6, .data⟩, ⟨7, .data⟩], none⟩ : Go.Oper) := rfl
theorem o97_8_9 : o97_8[9]? = some (⟨some 35, .buildSlice 152 1 #[(0, .tmp 34)], 152, "best.go:124", #[⟨8, .data⟩], none⟩ : Go.Oper) := rfl
theorem o97_8_10 : o97_8[10]? = some (⟨some 36, .call { callee := .builtin .append, args := #[.tmp 31, .tmp 35], argTypes := #[152, 152] }, 152, "best.go:124", #[⟨5, .data⟩, ⟨9, .data⟩, ⟨8, .chain⟩], none⟩ : Go.Oper) := rfl
theorem o97_8_11 : o97_8[11]? = some (⟨some 37, .indexAddr 154 (.tmp 26) (.tmp 27), 0, "best.go:124", #[⟨0, .data⟩, ⟨1, .data⟩, ⟨0, .phase⟩, ⟨1, .phase⟩, ⟨2, .phase⟩, ⟨3, .phase⟩, ⟨4, .phase⟩, ⟨5, .phase⟩, ⟨6, .phase⟩, ⟨7, .phase⟩, ⟨8, .phase⟩, ⟨9, .phase⟩, ⟨10, .phase⟩], none⟩ : Go.Oper) := rfl
theorem o97_8_12 : o97_8[12]? = some (⟨none, .store 152 (.tmp 37) (.tmp 36), 0, "best.go:124", #[⟨11, .data⟩, ⟨10, .data⟩, ⟨10, .chain⟩, ⟨0, .phase⟩, ⟨1, .phase⟩, ⟨2, .phase⟩, ⟨3, .phase⟩, ⟨4, .phase⟩, ⟨5, .phase⟩, ⟨6, .phase⟩, ⟨7, .phase⟩, ⟨8, .phase⟩, ⟨9, .phase⟩, ⟨10, .phase⟩], none⟩ : Go.Oper) := rfl
set_option maxRecDepth 100000 in
set_option maxHeartbeats 16000000 in
theorem fitting_calls (lo lo' : Nat) (v u : Value) (ss : List SlD) (cs : List ScD) (w : World) (hS : Sls w lo v ss) (hC : Scs w lo' u cs) (hn : cs.length ≤ 1000) (hm : ss.length ≤ 1000) :
  Calls Tryz.prog 97 #[v, u] w fun e w' => ∃ X5 g, e = .returned (.func (.func 126) #[] #[.pointer (some ⟨X5, 0, none⟩)]) ∧ TabS cs ss g cs.length cs.length w' ∧ w'.cell? ⟨X5, 0, none⟩ = some (.slice (some ⟨g, 0, none⟩) cs.length cs.length) ∧ Below w.heap.size w w' := by
 obtain ⟨i0, hi0, hz0, hz1, hz2⟩ := info_parts info_bool
 have hmk := make_rows cs.length hn
 have HS := Lib.hid hS
 have HC := Lib.hid hC
 obtain ⟨sa, sc, rfl⟩ := NRows.shape hS
 obtain ⟨ca, cc, rfl⟩ := NRows.shape hC
 have HI := Lib.hid hi0
 clear hS hC hi0
 go_enter Tryz.func97, Tryz.ntmps97
 go_upto_region 2 with fail
 obtain ⟨V, hV⟩ : ∃ V, V = (w.alloc (.cells (madeCells #[.slice none 0 0] cs.length) 152)).alloc (.cells #[.slice (some ⟨w.heap.size, 0, none⟩) cs.length cs.length] 154) := ⟨_, rfl⟩
 have hbV : Below w.heap.size w V := by rw [hV]; exact (below_alloc w _).trans ((below_alloc _ _).mono (by simp))
 have vg : V.heap[w.heap.size]? = some (.cells (madeCells #[.slice none 0 0] cs.length) 152 (0, 0)) := by rw [hV]; exact heap_al (heap_alloc_new w _) _
 have v5 : V.heap[w.heap.size + 1]? = some (.cells #[.slice (some ⟨w.heap.size, 0, none⟩) cs.length cs.length] 154 (0, 0)) := by
  have := heap_alloc_new (w.alloc (.cells (madeCells #[.slice none 0 0] cs.length) 152)) (.cells #[.slice (some ⟨w.heap.size, 0, none⟩) cs.length cs.length] 154)
  rw [World.size_alloc] at this
  rw [hV]; exact this
 have hT0 : TabS cs ss w.heap.size cs.length 0 V := ⟨_, vg, fun a ha => ⟨_, made_get _ a ha, fun h => by omega, fun _ => rfl⟩⟩
 rw [← hV]
 have hgw : w.heap.size ≤ w.heap.size := Nat.le_refl _
 have h5g : w.heap.size + 1 ≠ w.heap.size := by omega
 generalize hX5 : w.heap.size + 1 = X5 at v5 h5g ⊢
 generalize hg : w.heap.size = g at vg v5 hT0 hgw h5g hX5 ⊢
 clear hV vg hX5 hmk
 have Hg := Lib.hid hg
 have HbV := Lib.hid hbV
 clear hg hbV
 go_wp2_with fail
 go_loopw [15] (fun i wr => ∃ k : Nat, k ≤ cs.length ∧ i = .int .i64 k ∧ Hid (TabS cs ss g cs.length k wr) ∧ Hid (wr.heap[X5]? = some (.cells #[.slice (some ⟨g, 0, none⟩) cs.length cs.length] 154 (0, 0))) ∧ Below w.heap.size w wr) (fun i _ => cs.length - (intOf i).toNat)
 case atStart => exact ⟨0, Nat.zero_le _, rfl, Lib.hid hT0, Lib.hid v5, HbV.out⟩
 case round =>
  clear hT0 v5; obtain ⟨k, hk, rfl, HT, H5, hb⟩ := hrel; by_cases hlt : k < cs.length
  ·obtain ⟨c, hc⟩ : ∃ c, cs[k]? = some c := ⟨_, List.getElem?_eq_getElem hlt⟩
   rcases scs_at HC.out with ⟨_, h⟩ | ⟨cg, coff, ccap, e, _, hcg, _, hcell⟩
   ·rw [h] at hlt; simp at hlt
   simp only [Value.slice.injEq] at e
   obtain ⟨rfl, -, rfl⟩ := e; obtain ⟨cv, r0, r1, r2, r3, r4, hcv⟩ := hcell k c hc; have Hcv := Lib.hid hcv; obtain ⟨xa, xc, rfl⟩ := strs_shape hcv; have r0 := below_cell hb r0; have r1 := below_cell hb r1; have r2 := below_cell hb r2; have r3 := below_cell hb r3; have r4 := below_cell hb r4; have hlt' : (k : Int) < (cs.length : Int) := by omega
   have Hsc := Lib.hid (scAt_some hc); clear hcell hc hcv; go_upto_region 5 with fail
   obtain ⟨Wi, hWi⟩ : ∃ W, W = wr.alloc (.cells #[.string c.who, .slice xa c.pos.length xc, .int .i64 c.num, .int .i64 c.den, .bool c.played] 77) := ⟨_, rfl⟩
   have hbi : Below wr.heap.size wr Wi := by rw [hWi]; exact below_alloc wr _
   have h7 : Wi.heap[wr.heap.size]? = some (.cells #[.string c.who, .slice xa c.pos.length xc, .int .i64 c.num, .int .i64 c.den, .bool c.played] 77 (0, 0)) := by rw [hWi]; exact heap_alloc_new wr _
   rw [← hWi]; have hT := HT.out.below hbi; have HTi := Lib.hid hT; have H5 := Lib.hid (keep_heap H5.out hbi); obtain ⟨cur0, hg0, hrow⟩ := hT; have Hrow := Lib.hid hrow; have H7 := Lib.hid h7; have hlg : g < wr.heap.size := by obtain ⟨_, h, _⟩ := HT.out; exact lt_of_heap h
   have hzi := lt_of_heap h7; have hbwi := below_step hb hbi; obtain ⟨v0, hv0, -, hnil⟩ := hrow k hlt; have hnil := hnil (Nat.le_refl _); subst hnil; have h7g : wr.heap.size ≠ g := by omega
   generalize hX7 : wr.heap.size = X7 at H7 h7g hzi hlg ⊢
   clear hWi hrow h7 r0 r1 r2 r3 r4 hX7 hbi hb HT; go_wp2_with fail
   go_loopw [22] (fun i wq => ∃ (j : Nat) (vr : Value) (cur : Array Value), j ≤ ss.length ∧ i = .int .i64 j ∧ Hid (wq.heap[g]? = some (.cells cur 152 (0, 0))) ∧ Hid (cur[k]? = some vr) ∧ Hid (∀ a, a ≠ k → cur[a]? = cur0[a]?) ∧ Hid (wq.ownsRow Wi.heap.size 4 1 vr j ((List.range j).map fun p => .bool (suitAt cs ss k p))) ∧ Wi.grownBy wq (some g)) (fun i _ => ss.length - (intOf i).toNat)
   case atStart => exact ⟨0, _, cur0, Nat.zero_le _, rfl, Lib.hid hg0, Lib.hid hv0, Lib.hid (fun _ _ => rfl), Lib.hid (World.ownsRow_nil _ _ _ _), gb_refl _ _⟩
   case round =>
    obtain ⟨j, vr, cur, hj, rfl, Hg', Hvr, Hoth, Hown, hgw'⟩ := hrel; clear hg0 hv0; by_cases hlj : j < ss.length
    ·obtain ⟨s, hs⟩ : ∃ s, ss[j]? = some s := ⟨_, List.getElem?_eq_getElem hlj⟩
     have hbq : Below w.heap.size w wr := hbwi.grown hgw' hbwi.size (fun r hr => by cases hr; have := Hg.out; omega)
     rcases sls_at HS.out with ⟨_, h⟩ | ⟨sg, soff, scap, e, _, hsg, _, hcell⟩
     ·rw [h] at hlj; simp at hlj
     simp only [Value.slice.injEq] at e
     obtain ⟨rfl, -, rfl⟩ := e; obtain ⟨pv, s0, s1, hpv⟩ := hcell j s hs; have Hpv := Lib.hid hpv; obtain ⟨pa, pc, rfl⟩ := strs_shape hpv; have s0 := below_cell hbq s0; have s1 := below_cell hbq s1; have hlj' : (j : Int) < (ss.length : Int) := by omega
     have Hsu := Lib.hid (show suitAt cs ss k j = suitB c s by unfold suitAt; rw [Hsc.out, slAt_some hs])
     clear hcell hs hpv; go_upto_region 8 with fail
     obtain ⟨W9, hW9⟩ : ∃ W, W = wr.alloc (.cells #[.string s.key, .slice pa s.pos.length pc] 72) := ⟨_, rfl⟩
     have hb9 : Below wr.heap.size wr W9 := by rw [hW9]; exact below_alloc wr _
     have h9 : W9.heap[wr.heap.size]? = some (.cells #[.string s.key, .slice pa s.pos.length pc] 72 (0, 0)) := by rw [hW9]; exact heap_alloc_new wr _
     rw [← hW9]; have h5r := (hgw'.block X5 (lt_of_heap H5.out) (by simpa using h5g)).trans H5.out
     have h7r := (hgw'.block X7 (lt_of_heap H7.out) (by simpa using h7g)).trans H7.out
     generalize hX9 : wr.heap.size = X9 at h9 ⊢
     have hQ : Q8 cs g cs.length X5 X7 X9 cur c s xa xc pa pc W9.drew := ⟨keep_heap h5r hb9.drew, keep_heap Hg'.out hb9.drew, keep_heap h7r hb9.drew, h9⟩
     have hbc := (below_step hbq hb9).drew; have hgc : Wi.grownBy W9.drew (some g) := gb_trans (gb_trans hgw' (gb_below hb9 _)) (gb_drewN W9 1 _)
     have hown : W9.drew.ownsRow Wi.heap.size 4 1 vr j ((List.range j).map fun p => .bool (suitAt cs ss k p)) := own_below Hown.out hb9.drew
     obtain ⟨ra, rc, rfl⟩ := owns_shape hown; have hC8 := hQ.cells (i := k) Hvr.out; unfold S8C at hC8
     have hzw := hbwi.size; clear hW9 hb9 h9 h5r h7r hX9 s0 s1 Hown hbq; show Code.wp _ (Code.region 8 o97_8 true) _ _ _
     refine regionC_start 13 (fun w' => w'.cell? ⟨X5, 0, none⟩ = some (.slice (some ⟨g, 0, none⟩) cs.length cs.length) ∧ w'.cell? ⟨g, k, none⟩ = some (.slice ra j rc) ∧ w'.cell? ⟨X7, 0, none⟩ = some (.string c.who) ∧ w'.cell? ⟨X7, 1, none⟩ = some (.slice xa c.pos.length xc) ∧ w'.cell? ⟨X7, 2, none⟩ = some (.int .i64 c.num) ∧ w'.cell? ⟨X7, 3, none⟩ = some (.int .i64 c.den) ∧ w'.cell? ⟨X7, 4, none⟩ = some (.bool c.played) ∧ w'.cell? ⟨X9, 0, none⟩ = some (.string s.key) ∧ w'.cell? ⟨X9, 1, none⟩ = some (.slice pa s.pos.length pc)) (fun j => [0, 2, 4, 5, 6, 7, 8, 9, 10].contains j) (by kernel_rfl) rfl ?_
     generalize W9.drew = W4 at hQ hbc hgc hown hC8 ⊢
     ·skip
      refine takeC 1 27 (v := ?_) o97_8_1 rfl (by kernel_rfl) (by kernel_rfl) (by kernel_rfl) (by rfl) (fun _ _ _ h => h) (by rfl) ?y1_1 ?_
      case y1_1 => intro w; go_simp; try with_reducible rfl
      simp only [sE0, sE1]; refine takeC 3 29 (v := ?_) o97_8_3 rfl (by kernel_rfl) (by kernel_rfl) (by kernel_rfl) (by rfl) (fun _ _ _ h => h) (by rfl) ?y3_2 ?_
      case y3_2 => intro w; go_simp; try with_reducible rfl
      simp only [sE0, sE1]; refine loadC 0 26 (v := ?_) o97_8_0 rfl (by kernel_rfl) (by kernel_rfl) (by kernel_rfl) (by kernel_rfl) (fun _ _ _ h => h) (by rfl) ?y0_3 (by exact hC8) ?_
      case y0_3 => intro w h; (try dsimp only at h); go_simp; try with_reducible rfl
      simp only [sE0, sE1]; refine loadC 2 28 (v := ?_) o97_8_2 rfl (by kernel_rfl) (by kernel_rfl) (by kernel_rfl) (by kernel_rfl) (fun _ _ _ h => h) (by rfl) ?y2_4 (by exact hC8) ?_
      case y2_4 => intro w h; (try dsimp only at h); go_simp; try with_reducible rfl
      simp only [sE0, sE1]; refine loadC 4 30 (v := ?_) o97_8_4 rfl (by kernel_rfl) (by kernel_rfl) (by kernel_rfl) (by kernel_rfl) (fun _ _ _ h => h) (by rfl) ?y4_5 (by exact hC8) ?_
      case y4_5 => intro w h; (try dsimp only at h); go_simp; try with_reducible rfl
      simp only [sE0, sE1]; refine loadC 5 31 (v := ?_) o97_8_5 rfl (by kernel_rfl) (by kernel_rfl) (by kernel_rfl) (by kernel_rfl) (fun _ _ _ h => h) (by rfl) ?y5_6 (by exact hC8) ?_
      case y5_6 => intro w h; (try dsimp only at h); go_simp; try with_reducible rfl
      simp only [sE0, sE1]; refine loadC 6 32 (v := ?_) o97_8_6 rfl (by kernel_rfl) (by kernel_rfl) (by kernel_rfl) (by kernel_rfl) (fun _ _ _ h => h) (by rfl) ?y6_7 (by exact hC8) ?_
      case y6_7 => intro w h; (try dsimp only at h); go_simp; try with_reducible rfl
      simp only [sE0, sE1]; refine loadC 7 33 (v := ?_) o97_8_7 rfl (by kernel_rfl) (by kernel_rfl) (by kernel_rfl) (by kernel_rfl) (fun _ _ _ h => h) (by rfl) ?y7_8 (by exact hC8) ?_
      case y7_8 => intro w h; (try dsimp only at h); go_simp; try with_reducible rfl
      simp only [sE0, sE1]; refine readyC (rs := [8]) (by kernel_rfl) (by simp) (each_cons (runC o97_8_8 (by rfl) (fun K hK => ?_)) each_nil)
      go_simp; refine (suits_calls _ _ (.slice xa c.pos.length xc) (.slice pa s.pos.length pc) c s _ (Hcv.out.below hbc) (Hpv.out.below hbc)).mono ?_; rintro e w' ⟨rfl, hb'⟩; replace hQ := hQ.below hb'; replace hbc := below_step hbc hb'; replace hgc := gb_trans hgc (gb_below hb' _); replace hown := own_below hown hb'; replace hC8 := hQ.cells (i := k) Hvr.out; unfold S8C at hC8
      clear hb'; go_wp2_with fail
      refine hK.out _ _ (fun _ => ?_) ?_
      ·(exact hC8)
      clear hK K; try simp only [Act.put, sEt, sE0, sE1]
      refine readyC (rs := [9]) (by kernel_rfl) (by simp) (each_cons (runC o97_8_9 (by rfl) (fun K hK => ?_)) each_nil)
      go_simp; replace hQ := hQ.below (below_alloc _ (.cells #[.bool (suitB c s)] 4)); replace hbc := below_step hbc (below_alloc _ (.cells #[.bool (suitB c s)] 4)); replace hgc := gb_trans hgc (gb_alloc _ (.cells #[.bool (suitB c s)] 4) _); replace hown := hown.alloc (.cells #[.bool (suitB c s)] 4); replace hC8 := hQ.cells (i := k) Hvr.out; unfold S8C at hC8
      go_wp2_with fail
      refine hK.out _ _ (fun _ => ?_) ?_
      ·(exact hC8)
      clear hK K; try simp only [Act.put, sEt, sE0, sE1]
      refine readyC (rs := [10]) (by kernel_rfl) (by simp) (each_cons (runC o97_8_10 (by rfl) (fun K hK => ?_)) each_nil)
      refine wp_append_at _ (Operand.tmp 31) (Operand.tmp 35) 152 rfl Wi.heap.size 4 i0 (.bool false) 1 1 Tryz.underlying152 HI.out hz0 hz1 hz2 rfl (by decide) _ _ _ rfl hown _ 1 1 [.bool (suitB c s)] rfl rfl (cells_new _ _ _) (by simp [Value.oneCell']) (by unfold maxLen; omega) (by omega) hgc.size ?_
      intro v10 w10 hown10 hgrow; replace hQ := hQ.grown hown hgrow; replace hbc := hbc.grown hgrow hbc.size (fun r hr => by have := (own_block hown r hr).1; omega)
      replace hgc := gb_then hgc hgrow (fun r hr => (own_block hown r hr).1)
      replace hC8 := hQ.cells (i := k) Hvr.out; unfold S8C at hC8
      obtain ⟨na, nc, rfl⟩ := owns_shape hown10; clear hgrow hown; refine hK.out _ _ (fun _ => ?_) ?_
      ·(exact hC8)
      clear hK K; try simp only [Act.put, sEt, sE0, sE1]
      refine takeC 11 37 (v := ?_) o97_8_11 rfl (by kernel_rfl) (by kernel_rfl) (by kernel_rfl) (by rfl) (fun _ _ _ h => h) (by rfl) ?y11_9 ?_
      case y11_9 => intro w; go_simp; try with_reducible rfl
      simp only [sE0, sE1]; refine readyC (rs := [12]) (by kernel_rfl) (by simp) (each_cons (runC o97_8_12 (by rfl) (fun K hK => ?_)) each_nil)
      have zg := hC8.2.1; have fg := free_of hQ.2.1 k; go_simp; have Hgn := Lib.hid (set_cells (o := k) hQ.2.1 (.slice na (j + 1) nc)); have hownN := hown10.kept (gb_setCell w10 g k (.slice na (j + 1) nc)) (.inr fun e => by obtain ⟨_, cu, h⟩ := own_block hown10 g e; rw [hQ.2.1] at h; cases h)
      have HownN := Lib.hid hownN; have hgN := gb_trans hgc (gb_setCell w10 g k (.slice na (j + 1) nc)); clear fg hC8 hQ hown10 hownN; refine hK.out _ _ (fun h => absurd h (by decide)) ?_
      clear hK K; try simp only [sEt, sE0, sE1]
      refine doneC (by kernel_rfl) ?_ _
      clear zg; go_wp2_with fail
      go_roundw
      case rel =>
       refine ⟨j + 1, _, _, by omega, by go_num, Hgn, Lib.hid (by rw [set_get Hvr.out, if_pos rfl]), Lib.hid (fun a ha => by rw [Array.getElem?_setIfInBounds_ne (Ne.symm ha)]; exact Hoth.out a ha), Lib.hid (by rw [List.range_succ, List.map_append]; simpa [Hsu.out] using HownN.out), hgN⟩
      case measure => simp [intOf]; omega
    ·obtain rfl : j = ss.length := by omega
     have hbq : Below w.heap.size w wr := hbwi.grown hgw' hbwi.size (fun r hr => by cases hr; have := Hg.out; omega)
     have hfull : Bls wr vr (rowB cs ss k ss.length) := by
      have e : ((rowB cs ss k ss.length).map fun b => [Value.bool b]).flatten = (List.range ss.length).map fun p => Value.bool (suitAt cs ss k p) := by rw [flatten_single]; unfold rowB; rw [List.map_map]; rfl
      have el : ((rowB cs ss k ss.length).map fun b => [Value.bool b]).length = ss.length := by simp [rowB]
      have := Rows.of_owns (T := 4) (base := Wi.heap.size) (rows := (rowB cs ss k ss.length).map fun b => [Value.bool b]) (sz := 1) (by rw [e, el]; exact Hown.out) (by rw [el]; omega) (fun r hr => by obtain ⟨b, _, rfl⟩ := List.mem_map.1 hr; rfl)
      exact this.mono (Nat.zero_le _)
     have hT' : TabS cs ss g cs.length (k + 1) wr := by
      refine ⟨cur, Hg'.out, fun a ha => ?_⟩
      by_cases e : a = k
      ·subst e
       exact ⟨vr, Hvr.out, fun _ => hfull, fun h => by omega⟩
      ·obtain ⟨v, a1, a2, a3⟩ := Hrow.out a ha
       obtain ⟨_, hgi, _⟩ := HTi.out; exact ⟨v, by rw [Hoth.out a e]; exact a1, fun h => Rows.row (a2 (by omega)) hgw' (fun r hr => ⟨_, _, _, by cases hr; exact hgi, by decide⟩), fun h => a3 (by omega)⟩
     have HT' := Lib.hid hT'
     have H5' := Lib.hid ((hgw'.block X5 (lt_of_heap H5.out) (by simpa using h5g)).trans H5.out)
     clear hfull hT'; go_wp2_with fail
     go_roundw
     case rel => exact ⟨k + 1, by omega, by go_num, HT', H5', hbq⟩
     case measure => simp [intOf]; omega
  ·obtain rfl : k = cs.length := by omega
   have c5 := cell_at H5.out 0 rfl; go_wp2_with fail
   go_ret
   exact ⟨_, _, rfl, HT.out, c5, hb⟩
end Go.Proofs.YtfcaokpadodijaaGreat
/- The greatest sum in the slots behind one. -/
namespace Go.Proofs.YtfcaokpadodijaaGreat
open Go.RowKit Go.Proofs.YtfcaokpadodijaaGreat.Mat

/-- Does the scorer suit the slot? -/
def fitS (cs : List ScD) (ss : List SlD) (slot who : Nat) : Bool := suitAt cs ss who slot
def fitV (X5 : Nat) : Value := .func (.func 126) #[] #[.pointer (some ⟨X5, 0, none⟩)]
set_option maxHeartbeats 1000000 in
theorem best11_calls (cs : List ScD) (ss : List SlD) (g n X5 Xf Xi i : Nat) (a p : Nat) (w : World) (hT : TabS cs ss g n n w) (h5 : w.cell? ⟨X5, 0, none⟩ = some (.slice (some ⟨g, 0, none⟩) n n)) (hf : w.cell? ⟨Xf, 0, none⟩ = some (fitV X5)) (hi : w.cell? ⟨Xi, 0, none⟩ = some (.int .i64 (i : Int))) (ha : a < n) (hp : i + 1 + p < ss.length) (hm : ss.length ≤ 1000) :
  Calls Tryz.prog 101 #[.int .i64 (a : Int), .int .i64 (p : Int), .pointer (some ⟨Xf, 0, none⟩), .pointer (some ⟨Xi, 0, none⟩)] w (BoolIs (fitsAt (fitS cs ss) (i + 1) a p) w) := by
 have C := Lib.hid (fitting1_calls cs ss g n X5 a (i + 1 + p) w hT h5 ha hp)
 have w1 : IntKind.i64.wrap ((i : Int) + 1) = ((i + 1 : Nat) : Int) := by rw [IntWalk.i64_in _ (by omega)]; omega
 have w2 : IntKind.i64.wrap (((i + 1 : Nat) : Int) + (p : Int)) = ((i + 1 + p : Nat) : Int) := by rw [IntWalk.i64_in _ (by omega)]; omega
 unfold fitV at hf
 show Calls _ _ _ _ (BoolIs (suitAt cs ss a (i + 1 + p)) w)
 generalize suitAt cs ss a (i + 1 + p) = r at C ⊢
 clear hT h5
 go_enter Tryz.func101, Tryz.ntmps101
 go_wp2_with fail
 refine C.out.mono ?_
 rintro e w' ⟨rfl, hb⟩
 go_wp2_with fail
 go_ret
 exact ⟨rfl, hb⟩
set_option maxHeartbeats 4000000 in
theorem best1_calls (cs : List ScD) (ss : List SlD) (g X5 Xl Xs Xf Xi i lo lo' lo2 : Nat) (v u x : Value) (left : List Nat) (w : World) (hC : Scs w lo v cs) (hS : Sls w lo' u ss) (hL : Nums w lo2 x left)
  (hl : w.cell? ⟨Xl, 0, none⟩ = some v) (hs : w.cell? ⟨Xs, 0, none⟩ = some u) (hi : w.cell? ⟨Xi, 0, none⟩ = some (.int .i64 (i : Int))) (hf : w.cell? ⟨Xf, 0, none⟩ = some (fitV X5))
  (hT : TabS cs ss g cs.length cs.length w) (h5 : w.cell? ⟨X5, 0, none⟩ = some (.slice (some ⟨g, 0, none⟩) cs.length cs.length))
  (hn : cs.length ≤ 1000) (hm : ss.length ≤ 1000) (hlen : left.length ≤ 1000) (hil : i < ss.length) (hnd : left.Nodup) (hlt : ∀ y ∈ left, y < cs.length) (hF : ∀ c ∈ cs, FitW c) :
  Calls Tryz.prog 100 #[x, .pointer (some ⟨Xl, 0, none⟩), .pointer (some ⟨Xs, 0, none⟩), .pointer (some ⟨Xi, 0, none⟩), .pointer (some ⟨Xf, 0, none⟩)] w (IntBelow (great (fitS cs ss) (wAt cs) (i + 1) (ss.length - i - 1) left) w) := by
 have C := Lib.hid (greatest_calls (fitsAt (fitS cs ss) (i + 1)) (ss.length - i - 1) 101 #[.pointer (some ⟨Xf, 0, none⟩), .pointer (some ⟨Xi, 0, none⟩)] lo lo2 v x cs left w hC hL (by omega) hn hlen hnd hlt hF
  (fun W a p ha hp hb => best11_calls cs ss g cs.length X5 Xf Xi i a p W (hT.below hb) (below_cell hb h5) (below_cell hb hf) (below_cell hb hi) ha (by omega) hm) (by intro args w; go_simp))
 have HS := Lib.hid (show sumW (wAt cs) (grd (canP (fitsAt (fitS cs ss) (i + 1)) (ss.length - i - 1)) [] left) = great (fitS cs ss) (wAt cs) (i + 1) (ss.length - i - 1) left from rfl)
 rw [HS.out] at C
 generalize great (fitS cs ss) (wAt cs) (i + 1) (ss.length - i - 1) left = r at C ⊢
 have w1 : IntKind.i64.wrap ((ss.length : Int) - (i : Int)) = ((ss.length - i : Nat) : Int) := by rw [IntWalk.i64_in _ (by omega)]; omega
 have w2 : IntKind.i64.wrap (((ss.length - i : Nat) : Int) - 1) = ((ss.length - i - 1 : Nat) : Int) := by rw [IntWalk.i64_in _ (by omega)]; omega
 obtain ⟨a, c, rfl⟩ := NRows.shape hC
 obtain ⟨a', c', rfl⟩ := NRows.shape hS
 obtain ⟨b, d, rfl⟩ := nums_shape hL
 clear hC hS hL hT h5 hf HS hF hlt hnd
 go_enter Tryz.func100, Tryz.ntmps100
 go_wp2_with fail
 refine C.out.mono ?_
 rintro e w' ⟨rfl, hb⟩
 go_wp2_with fail
 go_ret
 exact ⟨rfl, hb⟩
end Go.Proofs.YtfcaokpadodijaaGreat
/- The best line-up: the program's way. -/
namespace Go.Proofs.YtfcaokpadodijaaGreat
open Go.RowKit Go.Proofs.YtfcaokpadodijaaGreat.Mat

theorem run_make_fills (P : Nat) (hP : P ≤ 1000) (w : World) : (Instr.makeSlice 30 (.int .i64 (P : Int)) (.int .i64 (P : Int))).run Tryz.prog w = .ok (.slice (some ⟨w.heap.size, 0, none⟩) P P) (w.alloc (.cells (madeCells #[.string ⟨#[]⟩, .string ⟨#[]⟩] (P * 2)) 49)) := by
 obtain ⟨i0, hi, hz0, hz1, hz2⟩ := info_parts info_fi
 have hr := run_make (P := Tryz.prog) w 30 49 i0 _ Tryz.underlying30 hi hz0 .i64 .i64 P P (by omega) (Int.le_refl _) (by rw [hz2]; omega) (by omega)
 simp only [Int.toNat_natCast, hz1] at hr
 exact hr
def noFi : FiD := ⟨⟨#[]⟩, ⟨#[]⟩⟩
theorem made_fills (P : Nat) (W : World) (g : Nat) (h : W.heap[g]? = some (.cells (madeCells #[.string ⟨#[]⟩, .string ⟨#[]⟩] (P * 2)) 49 (0, 0))) : RowsAt W 49 g 0 2 ((List.replicate P noFi).map fiRow) := by
 refine ⟨fi_each _, _, h, by simp [size_madeCells], fun i j u hu => ?_⟩
 rw [List.map_replicate, List.getElem?_replicate] at hu
 split at hu
 ·rename_i hi
  have hu' : (fiRow noFi)[j]? = some u := hu
  have hj : j < 2 := (List.getElem?_eq_some_iff.1 hu').1
  have e : (madeCells #[Value.string ⟨#[]⟩, .string ⟨#[]⟩] (P * 2))[0 + i * 2 + j]? = some (.string ⟨#[]⟩) := by
   unfold madeCells; rw [Array.getElem?_map, Array.getElem?_range, if_pos (by omega)]
   have : (0 + i * 2 + j) % 2 = j := by omega
   show some _ = _
   simp only [List.size_toArray, List.length_cons, List.length_nil, Nat.zero_add, Nat.reduceAdd] at this ⊢
   rw [this]; rcases j with _ | _ | j
   ·rfl
   ·rfl
   ·omega
  rw [e]; rcases j with _ | _ | j
  ·exact hu'
  ·exact hu'
  ·omega
 ·simp at hu
theorem fi_set {w : World} {g off i : Nat} {fs : List FiD} {f0 : FiD} (h : RowsAt w 49 g off 2 (fs.map fiRow)) (hf : fs[i]? = some f0) (k : ByteArray) :
  RowsAt (w.setCell ⟨g, off + i * 2 + 0, none⟩ (.string k)) 49 g off 2 ((fs.set i ⟨k, f0.who⟩).map fiRow) ∧ RowsAt (w.setCell ⟨g, off + i * 2 + 1, none⟩ (.string k)) 49 g off 2 ((fs.set i ⟨f0.slot, k⟩).map fiRow) := by
 have h0 := h.set (i := i) (f := 0) (row := fiRow f0) (by simp [hf]) (by decide) (.string k)
 have h1 := h.set (i := i) (f := 1) (row := fiRow f0) (by simp [hf]) (by decide) (.string k)
 rw [List.map_set, List.map_set]
 exact ⟨h0, h1⟩
/-- The name of number x: 0 is nobody. -/
def nameOf (cs : List ScD) (x : Nat) : ByteArray := if x = 0 then ⟨#[]⟩ else (scAt cs (x - 1)).who
def finL (cs : List ScD) (ss : List SlD) : Nat → List Nat → List FiD
 | _, [] => []
 | j, x :: xs => ⟨(slAt ss j).key, nameOf cs x⟩ :: finL cs ss (j + 1) xs
theorem bst_step {cs : List ScD} {ss : List SlD} {fs F : List FiD} {k x : Nat} {rest : List Nat} (hk : k < fs.length) (h : fs.take k ++ finL cs ss k (x :: rest) = F) : (fs.set k ⟨(slAt ss k).key, nameOf cs x⟩).take (k + 1) ++ finL cs ss (k + 1) rest = F := by
 rw [← h, List.take_succ_eq_append_getElem (by simpa using hk)]
 simp [finL, List.take_set_of_le]
section
variable {n : Nat} {fit : Nat → Nat → Bool} {w : Nat → Int}
noncomputable def prdB (n : Nat) (fit : Nat → Nat → Bool) (w : Nat → Int) (d i : Nat) (left : List Nat) (op : Int) (k : Nat) : Bool := decide ((left.filter fun x => x != k).length < left.length) && fit i k && decide (w k + great fit w (i + 1) d (left.filter fun x => x != k) = op)
theorem bestGo_same {d i : Nat} {left : List Nat} {op : Int} (h : great fit w (i + 1) d left = op) : bestGo n fit w (d + 1) i left op = 0 :: bestGo n fit w d (i + 1) left op := by
 rw [bestGo, if_pos h]
theorem bestGo_none {d i : Nat} {left : List Nat} {op : Int} (h : great fit w (i + 1) d left ≠ op) (hp : ∀ j, j < n → prdB n fit w d i left op j = false) : bestGo n fit w (d + 1) i left op = 0 :: bestGo n fit w d (i + 1) left op := by
 have e : (List.range n).find? (prdB n fit w d i left op) = none := by
  rw [List.find?_eq_none]; intro x hx; rw [hp x (List.mem_range.1 hx)]; simp
 rw [bestGo, if_neg h]
 unfold prdB at e
 rw [e]
theorem bestGo_some {d i q : Nat} {left : List Nat} {op : Int} (h : great fit w (i + 1) d left ≠ op) (hq : q < n) (hpq : prdB n fit w d i left op q = true) (hp : ∀ j, j < q → prdB n fit w d i left op j = false) : bestGo n fit w (d + 1) i left op = (q + 1) :: bestGo n fit w d (i + 1) (left.filter fun x => x != q) (op - w q) := by
 have e : (List.range n).find? (prdB n fit w d i left op) = some q := by
  rw [List.find?_range_eq_some]; exact ⟨hpq, List.mem_range.2 hq, fun j hj => by rw [hp j hj]; rfl⟩
 rw [bestGo, if_neg h]
 unfold prdB at e
 rw [e]
end
noncomputable def gre (cs : List ScD) (ss : List SlD) (i : Nat) (left : List Nat) : Int := great (fitS cs ss) (wAt cs) i (ss.length - i) left
noncomputable def bstF (ss : List SlD) (cs : List ScD) : List FiD := finL cs ss 0 (bestGo cs.length (fitS cs ss) (wAt cs) ss.length 0 (winsL cs) (gre cs ss 0 (winsL cs)))
theorem great_small {cs : List ScD} {fit : Nat → Nat → Bool} {i d : Nat} {left : List Nat} (hF : ∀ c ∈ cs, FitW c) (hl : left.length ≤ 12) : -12000000 ≤ great fit (wAt cs) i d left ∧ great fit (wAt cs) i d left ≤ 12000000 := by
 have h1 := sumW_small (fitC_at hF) (grd (canP (fitsAt fit i) d) [] left)
 have h2 := (grd_sub (can := canP (fitsAt fit i) d) left []).2
 simp at h2
 unfold great
 omega
/-- What is so at slot k. -/
structure BInv (cs : List ScD) (ss : List SlD) (F : List FiD) (lo : Nat) (W0 : World) (k : Nat) (left : List Nat) (op : Int) (fs : List FiD) (lv : Value) (w : World) : Prop where
 nums : Nums w lo lv left
 nodup : left.Nodup
 lt : ∀ y ∈ left, y < cs.length
 len : left.length ≤ 12
 opb : -12000000 ≤ op ∧ op ≤ 12000000
 flen : fs.length = ss.length
 fin : fs.take k ++ finL cs ss k (bestGo cs.length (fitS cs ss) (wAt cs) (ss.length - k) k left op) = F
 zero : ∀ j, k ≤ j → j < ss.length → fs[j]? = some noFi
 rows : RowsAt w 49 W0.heap.size 0 2 (fs.map fiRow)
 below : Below W0.heap.size W0 w
/-- What the rounds read. -/
def BRd (cs : List ScD) (ss : List SlD) (g X5 Xl Xs Xf lo lo' : Nat) (v u : Value) (w : World) : Prop :=
 Scs w lo v cs ∧ Sls w lo' u ss ∧ w.cell? ⟨Xl, 0, none⟩ = some v ∧ w.cell? ⟨Xs, 0, none⟩ = some u ∧ w.cell? ⟨Xf, 0, none⟩ = some (fitV X5) ∧ TabS cs ss g cs.length cs.length w ∧ w.cell? ⟨X5, 0, none⟩ = some (.slice (some ⟨g, 0, none⟩) cs.length cs.length)
theorem BRd.below {cs : List ScD} {ss : List SlD} {g X5 Xl Xs Xf lo lo' : Nat} {v u : Value} {w w' : World} (h : BRd cs ss g X5 Xl Xs Xf lo lo' v u w) (hb : Below w.heap.size w w') : BRd cs ss g X5 Xl Xs Xf lo lo' v u w' :=
 ⟨h.1.below hb, h.2.1.below hb, below_cell hb h.2.2.1, below_cell hb h.2.2.2.1, below_cell hb h.2.2.2.2.1, h.2.2.2.2.2.1.below hb, below_cell hb h.2.2.2.2.2.2⟩
end Go.Proofs.YtfcaokpadodijaaGreat
/- Which line-up is better: the reference's way. -/
namespace Go.Proofs.YtfcaokpadodijaaGreat
open Go.RowKit Go.Proofs.YtfcaokpadodijaaGreat.Mat

structure LuD where
 sum : Int
 many : Nat
 who : List ByteArray
def betS (x y : LuD) : Bool := if x.sum ≠ y.sum then decide (y.sum < x.sum) else if x.many ≠ y.many then decide (x.many < y.many) else decide (cmpL x.who y.who < 0)
def luV (x : LuD) (v : Value) : Value := .agg #[.int .i64 x.sum, .int .i64 (x.many : Int), v]
set_option maxRecDepth 100000 in
set_option maxHeartbeats 2000000 in
theorem better_calls (lo lo' : Nat) (v u : Value) (x y : LuD) (w : World) (hx : Strs w lo v x.who) (hy : Strs w lo' u y.who) :
  Calls Tryz.prog 66 #[luV x v, luV y u] w (BoolIs (betS x y) w) := by
 have C := Lib.hid (fun W (h : Below w.heap.size w W) => compareS_calls lo lo' v u x.who y.who W (hx.below h) (hy.below h))
 have Hb := Lib.hid (show betS x y = if x.sum ≠ y.sum then decide (y.sum < x.sum) else if x.many ≠ y.many then decide (x.many < y.many) else decide (cmpL x.who y.who < 0) from rfl)
 obtain ⟨a, c, rfl⟩ := strs_shape hx
 obtain ⟨a', c', rfl⟩ := strs_shape hy
 generalize x.who.length = nx at C ⊢
 generalize y.who.length = ny at C ⊢
 generalize betS x y = r at Hb ⊢
 generalize cmpL x.who y.who = q at C Hb
 unfold luV
 generalize x.sum = sx at Hb ⊢
 generalize y.sum = sy at Hb ⊢
 generalize x.many = mx at Hb ⊢
 generalize y.many = my at Hb ⊢
 clear hx hy
 obtain ⟨V, hV⟩ : ∃ V, V = (w.alloc (.cells #[.int .i64 sx, .int .i64 (mx : Int), .slice a nx c] 103)).alloc (.cells #[.int .i64 sy, .int .i64 (my : Int), .slice a' ny c'] 103) := ⟨_, rfl⟩
 have hbV : Below w.heap.size w V := by rw [hV]; exact (below_alloc w _).trans ((below_alloc _ _).mono (by simp))
 have HbV := Lib.hid hbV
 have v2 : V.heap[w.heap.size]? = some (.cells #[.int .i64 sx, .int .i64 (mx : Int), .slice a nx c] 103 (0, 0)) := by rw [hV]; exact heap_al (heap_alloc_new w _) _
 have v3 : V.heap[w.heap.size + 1]? = some (.cells #[.int .i64 sy, .int .i64 (my : Int), .slice a' ny c'] 103 (0, 0)) := by
  have := heap_alloc_new (w.alloc (.cells #[.int .i64 sx, .int .i64 (mx : Int), .slice a nx c] 103)) (.cells #[.int .i64 sy, .int .i64 (my : Int), .slice a' ny c'] 103)
  rw [World.size_alloc] at this
  rw [hV]; exact this
 have x0 := cell_at v2 0 rfl
 have x1 := cell_at v2 1 rfl
 have x2 := cell_at v2 2 rfl
 have y0 := cell_at v3 0 rfl
 have y1 := cell_at v3 1 rfl
 have y2 := cell_at v3 2 rfl
 go_enter Tryz.func66, Tryz.ntmps66
 go_upto_region 1 with fail
 rw [← hV]
 clear hV hbV v2 v3
 by_cases h1 : sx = sy
 ·subst h1
  by_cases h2 : mx = my
  ·subst h2
   have Hr := Lib.hid (show r = decide (q < 0) by have := Hb.out; simpa using this)
   go_wp2_with fail
   refine (C.out _ HbV.out).mono ?_; rintro e w' ⟨rfl, rfl⟩; go_wp2_with fail
   go_ret
   exact ⟨ret_bool (by rw [Hr.out]), HbV.out⟩
  ·have Hr := Lib.hid (show r = decide (mx < my) by have := Hb.out; simpa [h2] using this)
   have e2 : ((mx : Int) != (my : Int)) = true := by simp; omega
   clear h2; go_wp2_with fail
   go_ret
   exact ⟨ret_bool (by rw [Hr.out]), HbV.out⟩
 ·have Hr := Lib.hid (show r = decide (sy < sx) by have := Hb.out; simpa [h1] using this)
  have e1 : (sx != sy) = true := by simp [h1]
  clear h1; go_wp2_with fail
  go_ret
  exact ⟨ret_bool (by rw [Hr.out]), HbV.out⟩
/-- Numbers of rising names come as their names come. -/
theorem nameOf_lt {cs : List ScD} (hs : SortedK (cs.map ScD.who)) (hk : ∀ c ∈ cs, keyB c.who = true) {a b : Nat} (ha : a ≤ cs.length) (hb : b ≤ cs.length) : ltS (nameOf cs a) (nameOf cs b) = decide (a < b) := by
 have e0 : ∀ x, nameOf cs (x + 1) = keyAt (cs.map ScD.who) x := fun x => by
  unfold nameOf keyAt scAt
  rw [if_neg (by omega), Nat.add_sub_cancel, List.getElem?_map]
  cases cs[x]? <;> rfl
 have e1 : ∀ x, x < cs.length → ltS (nameOf cs 0) (nameOf cs (x + 1)) = true := fun x hx => by
  have : nameOf cs (x + 1) = cs[x].who := by
   unfold nameOf; rw [if_neg (by omega), Nat.add_sub_cancel, scAt_some (List.getElem?_eq_getElem hx)]
  rw [this]; exact lt_empty (hk _ (List.getElem_mem hx))
 rcases a with _ | a
 ·rcases b with _ | b
  ·rw [ltS_irrefl]; rfl
  ·rw [e1 b (by omega)]; simp
 ·rcases b with _ | b
  ·rw [ltS_asymm (e1 a (by omega))]; simp
  ·rcases Nat.lt_trichotomy a b with h | h | h
   ·rw [e0, e0, hs a b h (by simp; omega)]; simp [h]
   ·subst h; rw [ltS_irrefl]; simp
   ·rw [e0, e0, ltS_asymm (hs b a h (by simp; omega))]; simp; omega
theorem lex_names {cs : List ScD} (hs : SortedK (cs.map ScD.who)) (hk : ∀ c ∈ cs, keyB c.who = true) : ∀ (xs ys : List Nat), (∀ x ∈ xs, x ≤ cs.length) → (∀ y ∈ ys, y ≤ cs.length) → xs.length = ys.length → decide (cmpL (xs.map (nameOf cs)) (ys.map (nameOf cs)) < 0) = lexLt xs ys
 | [], [], _, _, _ => by simp [cmpL, lexLt]
 | a :: x, b :: y, h1, h2, h3 => by
  have e1 := nameOf_lt hs hk (h1 a (by simp)) (h2 b (by simp))
  have e2 := nameOf_lt hs hk (h2 b (by simp)) (h1 a (by simp))
  have ih := lex_names hs hk x y (fun z hz => h1 z (by simp [hz])) (fun z hz => h2 z (by simp [hz])) (by simpa using h3)
  rw [List.map_cons, List.map_cons, cmpL, lexLt]; unfold cmpStr; rw [e1, e2]; by_cases hab : a < b
  ·simp [hab]
  ·by_cases hba : b < a
   ·simp [hab, hba]
   ·simp [hab, hba, ih]
 | [], _ :: _, _, _, h => by simp at h
 | _ :: _, [], _, _, h => by simp at h
end Go.Proofs.YtfcaokpadodijaaGreat
/- score.best walked. -/
namespace Go.Proofs.YtfcaokpadodijaaGreat
open Go.RowKit Go.Proofs.YtfcaokpadodijaaGreat.Mat

/-- The rounds over the slots. -/
theorem nums_row {w w' : World} {lo g : Nat} {cur : Array Value} {fr : Nat × Nat} {v : Value} {ks : List Nat} (h : Nums w lo v ks) (hg : w.grownBy w' (some g)) (hc : w.heap[g]? = some (.cells cur 49 fr)) : Nums w' lo v ks :=
 Rows.row h hg (fun r hr => by cases hr; exact ⟨_, _, _, hc, by decide⟩)
theorem BInv.next {cs : List ScD} {ss : List SlD} {F : List FiD} {lo : Nat} {W0 : World} {k : Nat} {left : List Nat} {op : Int} {fs : List FiD} {lv : Value} {w : World} (h : BInv cs ss F lo W0 k left op fs lv w) (hk : k < ss.length) {x : Nat} {left' : List Nat} {op' : Int} {lv' : Value} {w' : World} {key nm : ByteArray}
  (hkey : slAt ss k = ⟨key, (slAt ss k).pos⟩) (hnm : nameOf cs x = nm)
  (hg : bestGo cs.length (fitS cs ss) (wAt cs) (ss.length - k) k left op = x :: bestGo cs.length (fitS cs ss) (wAt cs) (ss.length - (k + 1)) (k + 1) left' op')
  (nums' : Nums w' lo lv' left') (nodup' : left'.Nodup) (lt' : ∀ y ∈ left', y < cs.length) (len' : left'.length ≤ 12) (opb' : -12000000 ≤ op' ∧ op' ≤ 12000000)
  (rows' : RowsAt w' 49 W0.heap.size 0 2 ((fs.set k ⟨key, nm⟩).map fiRow)) (below' : Below W0.heap.size W0 w') : BInv cs ss F lo W0 (k + 1) left' op' (fs.set k ⟨key, nm⟩) lv' w' := by
 have hk2 : (slAt ss k).key = key := by rw [hkey]
 refine ⟨nums', nodup', lt', len', opb', by simpa using h.flen, ?_, fun j hj hj2 => by rw [List.getElem?_set_ne (by omega)]; exact h.zero j (by omega) hj2, rows', below'⟩
 have := h.fin
 rw [hg] at this
 have := bst_step (by rw [h.flen]; exact hk) this
 rw [hk2, hnm] at this
 exact this
set_option maxRecDepth 100000 in
set_option maxHeartbeats 16000000 in
theorem best_calls (lo lo' : Nat) (v u : Value) (cs : List ScD) (ss : List SlD) (w : World) (hC : Scs w lo v cs) (hS : Sls w lo' u ss) (hn : cs.length ≤ 12) (hm : ss.length ≤ 1000) (hF : ∀ c ∈ cs, FitW c) :
  Calls Tryz.prog 53 #[u, v] w fun e w' => ∃ v', e = .returned v' ∧ Fis w' w.heap.size v' (bstF ss cs) ∧ Below w.heap.size w w' := by
 have HC := Lib.hid hC
 have HS := Lib.hid hS
 have HF := Lib.hid hF
 have hgs := great_small (fit := fitS cs ss) (i := 0) (d := ss.length) (left := winsL cs) hF (by have := (wins_perm cs).length_eq; have := winK_len cs cs.length; omega)
 have Hgs := Lib.hid hgs
 obtain ⟨V, hV⟩ : ∃ V, V = (w.alloc (.cells #[u] 26)).alloc (.cells #[v] 28) := ⟨_, rfl⟩
 have hbV : Below w.heap.size w V := by rw [hV]; exact (below_alloc w _).trans ((below_alloc _ _).mono (by simp))
 have v2 : V.heap[w.heap.size]? = some (.cells #[u] 26 (0, 0)) := by rw [hV]; exact heap_al (heap_alloc_new w _) _
 have v3 : V.heap[w.heap.size + 1]? = some (.cells #[v] 28 (0, 0)) := by
  have := heap_alloc_new (w.alloc (.cells #[u] 26)) (.cells #[v] 28)
  rw [World.size_alloc] at this
  rw [hV]; exact this
 have CF := Lib.hid (fitting_calls lo' lo u v ss cs V (hS.below hbV) (hC.below hbV) (by omega) hm)
 have CW := Lib.hid (fun W (h : Below w.heap.size w W) => winners_calls lo v cs W (hC.below h) hn hF)
 obtain ⟨sa, sc, rfl⟩ := NRows.shape hS
 obtain ⟨ca, cc, rfl⟩ := NRows.shape hC
 obtain ⟨Xs, hXs⟩ : ∃ X, w.heap.size = X := ⟨_, rfl⟩
 obtain ⟨Xl, hXl⟩ : ∃ X, w.heap.size + 1 = X := ⟨_, rfl⟩
 have x2 : V.cell? ⟨Xs, 0, none⟩ = some (.slice sa ss.length sc) := by rw [← hXs]; exact cell_at v2 0 rfl
 have x3 : V.cell? ⟨Xl, 0, none⟩ = some (.slice ca cs.length cc) := by rw [← hXl]; exact cell_at v3 0 rfl
 have X2 := Lib.hid x2
 have X3 := Lib.hid x3
 have HbV := Lib.hid hbV
 have HX := Lib.hid (And.intro hXs hXl)
 clear hC hS hF hgs hbV v2 v3 hXs hXl
 go_enter Tryz.func53, Tryz.ntmps53
 go_upto_region 1 with fail
 rw [← hV, HX.out.2, HX.out.1]
 clear hV
 go_wp2_with fail
 refine CF.out.mono ?_
 rintro e w1 ⟨X5, g, rfl, hT, h5, hb1⟩
 go_upto_region 2 with fail
 obtain ⟨Xf, W1, ef, fW, hf, hbf⟩ := any_box w1 (.cells #[fitV X5] 123)
 unfold fitV at fW hf
 rw [fW, ef]
 clear fW
 have hbV1 := below_step hb1 hbf
 have hbw1 := below_step HbV.out (hbV1.mono (Nat.le_refl _))
 have HR := Lib.hid (show BRd cs ss g X5 Xl Xs Xf lo lo' (.slice ca cs.length cc) (.slice sa ss.length sc) W1 from ⟨HC.out.below hbw1, HS.out.below hbw1, below_cell hbV1 X3.out, below_cell hbV1 X2.out, cell_at hf 0 rfl, hT.below hbf, below_cell hbf h5⟩)
 have Hbw1 := Lib.hid hbw1
 obtain ⟨_, _, r1, r2, r3, -, -⟩ := HR.out
 unfold fitV at r3
 clear ef hf hbf hbV1 hbw1 hT h5 hb1 x2 x3
 go_wp2_with fail
 refine (CW.out _ Hbw1.out).mono ?_
 rintro e w2 ⟨lv, rfl, hN, hb2⟩
 have HR := Lib.hid (HR.out.below hb2)
 obtain ⟨rC, rS, r1, r2, r3, r4, r5⟩ := HR.out
 have CG := Lib.hid (greatest_calls (fitsAt (fitS cs ss) 0) ss.length 126 #[.pointer (some ⟨X5, 0, none⟩)] lo W1.heap.size (.slice ca cs.length cc) lv cs (winsL cs) w2 rC hN hm (by omega) (by have := (wins_perm cs).length_eq; have := winK_len cs cs.length; omega) (wins_nodup cs) (fun x hx => ((wins_mem cs x).1 hx).1) HF.out
  (fun W a p ha hp hb => by
   have := fitting1_calls cs ss g cs.length X5 a (0 + p) W (r4.below hb) (below_cell hb r5) ha (by omega)
   rw [Nat.zero_add] at this
   show Calls _ _ _ _ (BoolIs (suitAt cs ss a (0 + p)) W)
   rw [Nat.zero_add]; exact this) (by intro args w; go_simp))
 have HN := Lib.hid hN
 have Hsg := Lib.hid (show sumW (wAt cs) (grd (canP (fitsAt (fitS cs ss) 0) ss.length) [] (winsL cs)) = gre cs ss 0 (winsL cs) from rfl)
 rw [Hsg.out] at CG
 obtain ⟨la, lc, rfl⟩ := nums_shape hN
 have Hbw2 := Lib.hid (below_step Hbw1.out hb2)
 unfold fitV at r3
 clear rC rS r4 r5 hN hb2 CW
 go_wp2_with fail
 refine CG.out.mono ?_
 rintro e w3 ⟨rfl, hb3⟩
 have HR := Lib.hid (HR.out.below hb3)
 obtain ⟨_, _, r1, r2, r3, -, -⟩ := HR.out
 have HN := Lib.hid (HN.out.below hb3)
 have Hbw3 := Lib.hid (below_step Hbw2.out hb3)
 have hmk := run_make_fills ss.length hm
 clear hb3 CG
 go_upto_region 5 with fail
 obtain ⟨gF, W0, ef, fW, hgF, hbf⟩ := any_box w3 (.cells (madeCells #[.string ⟨#[]⟩, .string ⟨#[]⟩] (ss.length * 2)) 49)
 have HI0 := Lib.hid (show BInv cs ss (bstF ss cs) 0 w3 0 (winsL cs) (gre cs ss 0 (winsL cs)) (List.replicate ss.length noFi) (.slice la (winsL cs).length lc) W0 from
  ⟨(HN.out.below hbf).mono (Nat.zero_le _), wins_nodup cs, fun x hx => ((wins_mem cs x).1 hx).1, by have := (wins_perm cs).length_eq; have := winK_len cs cs.length; omega, Hgs.out, by simp, by rw [List.take_zero, List.nil_append, Nat.sub_zero]; rfl, fun j _ hj => by rw [List.getElem?_replicate, if_pos hj], by rw [← ef] at hgF; exact made_fills ss.length W0 _ hgF, hbf⟩)
 rw [fW, ef]
 have HgF := Lib.hid ef
 obtain ⟨_, _, r1, r2, r3, -, -⟩ := HR.out.below hbf
 generalize gre cs ss 0 (winsL cs) = op0 at HI0 ⊢
 generalize winsL cs = left0 at HI0 ⊢
 obtain ⟨F, hFe⟩ : ∃ F, bstF ss cs = F := ⟨_, rfl⟩
 rw [hFe] at HI0
 have HFe := Lib.hid hFe
 clear hFe
 clear fW ef hgF hbf hmk Hgs Hsg HN
 unfold fitV at r3
 go_wp2_with fail
 clear r1 r2 r3
 go_loopw [6, 7, 31] (fun lv ov i wr => ∃ (k : Nat) (left : List Nat) (op : Int) (fs : List FiD), k ≤ ss.length ∧ i = .int .i64 k ∧ ov = .int .i64 op ∧ Hid (BInv cs ss F 0 w3 k left op fs lv wr)) (fun _ _ i _ => ss.length - (intOf i).toNat)
 case atStart => exact ⟨0, left0, op0, _, Nat.zero_le _, rfl, rfl, HI0⟩
 case round =>
  clear HI0; obtain ⟨k, left, op, fs, hk, rfl, rfl, HI⟩ := hrel; by_cases hlt : k < ss.length
  ·obtain ⟨s, hs⟩ : ∃ s, ss[k]? = some s := ⟨_, List.getElem?_eq_getElem hlt⟩
   have hb := HI.out.below; rcases sls_at HS.out with ⟨_, h⟩ | ⟨sg, soff, scap, e, _, hsg, _, hcell⟩
   ·rw [h] at hlt; simp at hlt
   simp only [Value.slice.injEq] at e
   obtain ⟨rfl, -, rfl⟩ := e; obtain ⟨pv, s0, s1, hpv⟩ := hcell k s hs; obtain ⟨pa, pc, rfl⟩ := strs_shape hpv; have hb3 := below_step Hbw3.out (hb.mono (Nat.le_refl _)); have s0 := below_cell hb3 s0; have s1 := below_cell hb3 s1; have hlt' : (k : Int) < (ss.length : Int) := by omega
   have Hsk := Lib.hid (slAt_some hs); clear hcell hs hpv hb3; go_upto_region 8 with fail
   obtain ⟨X9, WA, e9, f9, h9, hb9⟩ := any_box wr (.cells #[.int .i64 (k : Int)] 3); obtain ⟨X10, WB, e10, f10, h10, hb10⟩ := any_box WA (.cells #[.string s.key, .slice pa s.pos.length pc] 72); have e10' : wr.heap.size + 1 = X10 := by rw [← e10, ← f9]; simp
   rw [f9, f10, e10', e9]; have h9 := cells_later h9 hb10; have hbB := below_step hb9 hb10; have HI1 := Lib.hid HI.out; have z9 := cell_at h9 0 rfl; have z10 := cell_at h10 0 rfl; have hrB := HI.out.rows.below hbB; have hfr := fun o => hrB.free o
   have hNB := HI.out.nums.below hbB; have hfk := HI.out.zero k (Nat.le_refl _) hlt; have hset := (fi_set hrB hfk s.key).1; have hgk := gb_setCell WB w3.heap.size (0 + k * 2 + 0) (.string s.key); have hbK := below_set (o := 0 + k * 2 + 0) (HI.out.below.trans (hbB.mono HI.out.below.size)) (Nat.le_refl _) (.string s.key); have hNK := nums_row hNB hgk hrB.heap.choose_spec; have hHgF := HgF.out; have zo := hrB.cell (i := k) (j := 0) (r := fiRow noFi) (u := .string ⟨#[]⟩) (by rw [List.getElem?_map, hfk]; rfl) rfl
   have zo' := hrB.cell (i := k) (j := 1) (r := fiRow noFi) (u := .string ⟨#[]⟩) (by rw [List.getElem?_map, hfk]; rfl) rfl
   simp only [Nat.zero_add, Nat.add_zero] at hset hgk hbK hNK zo zo'
   rw [hHgF] at hfr hset hgk hbK hNK zo zo'
   go_upto_region 9 with fail
   obtain ⟨WC, hWC⟩ : ∃ W, WB.setCell ⟨gF, k * 2, none⟩ (.string s.key) = W := ⟨_, rfl⟩
   have h9C : WC.heap[X9]? = some (.cells #[.int .i64 (k : Int)] 3 (0, 0)) := by
    rw [← hWC]; refine heap_far h9 ?_; have := HI1.out.rows.lt
    omega
   rw [hWC] at hset hgk hbK hNK ⊢
   have HRC := Lib.hid (HR.out.below (by rw [hHgF]; exact hbK))
   obtain ⟨c1, c2, c3, c4, c5, c6, c7⟩ := HRC.out
   have C1 := Lib.hid (fun (W : World) (hbW : Below WC.heap.size WC W) (x : Value) (lf : List Nat) (hx : Nums W 0 x lf) (h1 : lf.length ≤ 12) (h2 : lf.Nodup) (h3 : ∀ y ∈ lf, y < cs.length) =>
    best1_calls cs ss g X5 Xl Xs Xf X9 k lo lo' 0 _ _ x lf W (c1.below hbW) (c2.below hbW) hx (below_cell hbW c3) (below_cell hbW c4) (below_cell hbW (cell_at h9C 0 rfl)) (below_cell hbW c5) (c6.below hbW) (below_cell hbW c7) (by omega) hm (by omega) hlt h2 h3 HF.out)
   have CF1 := Lib.hid (fun (W : World) (hbW : Below WC.heap.size WC W) (a : Nat) (ha : a < cs.length) => fitting1_calls cs ss g cs.length X5 a k W (c6.below hbW) (below_cell hbW c7) ha hlt)
   have R0 := Lib.hid (fun (W : World) (hbW : Below WC.heap.size WC W) => And.intro (below_cell hbW c3) (And.intro (below_cell hbW c5) (below_cell hbW (cell_at h9C 0 rfl))))
   have HNC := Lib.hid hNK; have Hset := Lib.hid hset; have HbC := Lib.hid hbK; have HhF := Lib.hid hHgF; obtain ⟨ma, mc, rfl⟩ := nums_shape hNK; clear hset hgk hbK hNK c1 c2 c3 c4 c5 c6 c7 h9C hWC hHgF zo zo' hfr hNB hfk hrB z9 z10 hbB h9 e9 f9 hb9 e10 f10 h10 hb10 e10' s0 s1 hb; go_wp2_with fail
   refine (C1.out _ (Below.refl _ _) _ left HNC.out HI1.out.len HI1.out.nodup HI1.out.lt).mono ?_; rintro e wD ⟨rfl, hbD⟩; obtain ⟨d, hd⟩ : ∃ d, ss.length - k = d + 1 := ⟨ss.length - k - 1, by omega⟩
   have hd1 : ss.length - k - 1 = d := by omega
   have hd2 : ss.length - (k + 1) = d := by omega
   rw [hd1] at C1 ⊢
   obtain ⟨r0, hr0⟩ : ∃ r, great (fitS cs ss) (wAt cs) (k + 1) d left = r := ⟨_, rfl⟩
   rw [hr0]; have Hr0 := Lib.hid hr0; have Hd := Lib.hid (And.intro hd hd2); have HbD := Lib.hid hbD; clear hr0 hd hd1 hd2
   have Hend := Lib.hid (show ∀ W, Below WC.heap.size WC W → bestGo cs.length (fitS cs ss) (wAt cs) (d + 1) k left op = 0 :: bestGo cs.length (fitS cs ss) (wAt cs) d (k + 1) left op → BInv cs ss F 0 w3 (k + 1) left op (fs.set k ⟨s.key, ⟨#[]⟩⟩) (.slice ma left.length mc) W from fun W hW hg =>
    HI1.out.next hlt (x := 0) (by rw [Hsk.out]) rfl (by rw [Hd.out.1, Hd.out.2]; exact hg) (HNC.out.below hW) HI1.out.nodup HI1.out.lt HI1.out.len HI1.out.opb (by rw [HhF.out]; exact Hset.out.below hW) (by rw [HhF.out]; have h := HbC.out; exact h.trans (hW.mono (by have := h.size; have := HhF.out; omega))))
   by_cases he : r0 = op
   ·have Hn := Lib.hid (Hend.out wD hbD (bestGo_same (Hr0.out.trans he)))
    subst he; clear hbD; go_wp2_with fail
    go_roundw
    case rel => exact ⟨k + 1, left, r0, _, by omega, by go_num, rfl, Hn⟩
    case measure => simp [intOf]; omega
   ·have he1 : (r0 == op) = false := beq_eq_false_iff_ne.2 he
    have Hne := Lib.hid (show great (fitS cs ss) (wAt cs) (k + 1) d left ≠ op by rw [Hr0.out]; exact he)
    obtain ⟨r1, r3, r9⟩ := R0.out wD hbD; clear he hbD; unfold fitV at r3
    go_wp2_with fail
    clear r1 r3 r9 he1; go_loopw [6, 7, 50] (fun lv ov i wq => ∃ q : Nat, q ≤ cs.length ∧ i = .int .i64 q ∧ lv = .slice ma left.length mc ∧ ov = .int .i64 op ∧ Hid (∀ j, j < q → prdB cs.length (fitS cs ss) (wAt cs) d k left op j = false) ∧ Hid (Below WC.heap.size WC wq)) (fun _ _ i _ => cs.length - (intOf i).toNat)
    case atStart => exact ⟨0, Nat.zero_le _, rfl, rfl, rfl, Lib.hid (fun j hj => by omega), HbD⟩
    case round =>
     obtain ⟨q, hq, rfl, rfl, rfl, Hpre, Hbq⟩ := hrel; by_cases hlq : q < cs.length
     ·obtain ⟨c, hc⟩ : ∃ c, cs[q]? = some c := ⟨_, List.getElem?_eq_getElem hlq⟩
      have hfc := Lib.hid (HF.out c (List.mem_of_getElem? hc)); have Hwc := Lib.hid (show wAt cs q = wthC c by unfold wAt; rw [scAt_some hc])
      have Hnm := Lib.hid (show nameOf cs (q + 1) = c.who by unfold nameOf; rw [if_neg (by omega), Nat.add_sub_cancel, scAt_some hc])
      rcases scs_at HRC.out.1 with ⟨_, h⟩ | ⟨cg, coff, ccap, e, _, hcg, _, hcell⟩
      ·rw [h] at hlq; simp at hlq
      simp only [Value.slice.injEq] at e
      obtain ⟨rfl, -, rfl⟩ := e; obtain ⟨pv2, q0, q1, q2, q3, q4, hpv2⟩ := hcell q c hc; obtain ⟨qa, qc, rfl⟩ := strs_shape hpv2; have q0 := below_cell Hbq.out q0; have q1 := below_cell Hbq.out q1; have q2 := below_cell Hbq.out q2; have q3 := below_cell Hbq.out q3; have q4 := below_cell Hbq.out q4; have hlq' : (q : Int) < (cs.length : Int) := by omega
      clear hcell hc hpv2; go_upto_region 14 with fail
      obtain ⟨X13, WE, e13, f13, h13, hb13⟩ := any_box wr (.cells #[.string c.who, .slice qa c.pos.length qc, .int .i64 c.num, .int .i64 c.den, .bool c.played] 77); rw [f13, e13]; have Hbe := Lib.hid (below_step Hbq.out hb13); have H13 := Lib.hid h13; clear e13 f13 h13 hb13 q0 q1 q2 q3 q4; go_wp2_with fail
      refine (without_calls 0 q _ left _ (HNC.out.below Hbe.out)).mono ?_; rintro e wG ⟨ov, rfl, hNo, hbG⟩; have HbG := Lib.hid (below_step Hbe.out hbG); have H13 := Lib.hid (cells_later H13.out hbG); obtain ⟨r1, r3, r9⟩ := R0.out wG HbG.out; have z0 := cell_at H13.out 0 rfl; have z1 := cell_at H13.out 1 rfl; have z2 := cell_at H13.out 2 rfl; have z3 := cell_at H13.out 3 rfl; have z4 := cell_at H13.out 4 rfl; unfold fitV at r3
      have Hpq := Lib.hid (show prdB cs.length (fitS cs ss) (wAt cs) d k left op q = (decide ((outL q left).length < left.length) && suitAt cs ss q k && decide (wthC c + great (fitS cs ss) (wAt cs) (k + 1) d (outL q left) = op)) by rw [← Hwc.out]; rfl)
      have HNo := Lib.hid (hNo.mono (Nat.zero_le _)); have Hosub := Lib.hid (show (outL q left).Sublist left from List.filter_sublist)
      have Hbg := Lib.hid (show bestGo cs.length (fitS cs ss) (wAt cs) d (k + 1) (outL q left) (op - wthC c) = bestGo cs.length (fitS cs ss) (wAt cs) d (k + 1) (left.filter fun x => x != q) (op - wAt cs q) by rw [Hwc.out]; rfl)
      obtain ⟨oa, oc, rfl⟩ := nums_shape hNo; generalize outL q left = out at HNo Hpq Hosub Hbg ⊢
      have Hskip := Lib.hid (show prdB cs.length (fitS cs ss) (wAt cs) d k left op q = false → ∀ j, j < q + 1 → prdB cs.length (fitS cs ss) (wAt cs) d k left op j = false from fun h j hj => by
       rcases Nat.lt_succ_iff_lt_or_eq.1 hj with h' | rfl
       ·exact Hpre.out j h'
       ·exact h)
      clear hNo hbG; by_cases b1 : out.length < left.length
      ·have b1' : decide ((out.length : Int) < (left.length : Int)) = true := decide_eq_true (by omega)
       have Hb1 := Lib.hid b1; clear b1; go_wp2_with fail
       refine (CF1.out _ HbG.out q hlq).mono ?_; rintro e wH ⟨rfl, hbH⟩; have HbH := Lib.hid (below_step HbG.out hbH); have z0 := below_cell hbH z0; have z1 := below_cell hbH z1; have z2 := below_cell hbH z2; have z3 := below_cell hbH z3; have z4 := below_cell hbH z4; have HNo := Lib.hid (HNo.out.below hbH); have H13 := Lib.hid (cells_later H13.out hbH); clear hbH r1 r3 r9; cases hsu : suitAt cs ss q k
       ·have Hp := Lib.hid (Hskip.out (by rw [Hpq.out, hsu]; simp))
        clear hsu; go_wp2_with fail
        go_roundw
        case rel => exact ⟨q + 1, by omega, by go_num, rfl, rfl, Hp, HbH⟩
        case measure => simp [intOf]; omega
       ·have Hsu := Lib.hid hsu
        clear hsu; go_wp2_with fail
        refine (wrth_calls c qa _ qc _ hfc.out).mono ?_; rintro e wI ⟨rfl, hbI⟩; have HbI := Lib.hid (below_step HbH.out hbI); have HNo := Lib.hid (HNo.out.below hbI); have H13 := Lib.hid (cells_later H13.out hbI); clear hbI z0 z1 z2 z3 z4; have Hol := Lib.hid (show out.length ≤ 12 by have := HI1.out.len; have := Hb1.out; omega)
        have Hon := Lib.hid (show out.Nodup from HI1.out.nodup.sublist Hosub.out)
        have Hot := Lib.hid (show ∀ y ∈ out, y < cs.length from fun y hy => HI1.out.lt y (Hosub.out.subset hy))
        have hgb := great_small (fit := fitS cs ss) (i := k + 1) (d := d) (left := out) HF.out Hol.out; have C1' := Lib.hid (C1.out wI HbI.out _ out HNo.out Hol.out Hon.out Hot.out)
        have hws := wth_small hfc.out; obtain ⟨ro, hro⟩ : ∃ r, great (fitS cs ss) (wAt cs) (k + 1) d out = r := ⟨_, rfl⟩
        obtain ⟨y, hy⟩ : ∃ y, wthC c = y := ⟨_, rfl⟩
        have CWo := Lib.hid (fun W => wrth_calls c qa c.pos.length qc W hfc.out)
        rw [hro] at hgb C1' Hpq
        rw [hy] at hws Hpq Hbg CWo ⊢
        have w1 : IntKind.i64.wrap (y + ro) = y + ro := IntWalk.i64_in _ (by omega)
        have w2 : IntKind.i64.wrap (op - y) = op - y := IntWalk.i64_in _ (by have := HI1.out.opb; omega)
        clear hro hy; go_wp2_with fail
        refine C1'.out.mono ?_; rintro e wJ ⟨rfl, hbJ⟩; have HbJ := Lib.hid (below_step HbI.out hbJ); have HNo := Lib.hid (HNo.out.below hbJ); have H13 := Lib.hid (cells_later H13.out hbJ); have z0 := cell_at H13.out 0 rfl; have z1 := cell_at H13.out 1 rfl; have z2 := cell_at H13.out 2 rfl; have z3 := cell_at H13.out 3 rfl; have z4 := cell_at H13.out 4 rfl; obtain ⟨r1, r3, r9⟩ := R0.out wJ HbJ.out; clear hbJ C1'; by_cases hs : y + ro = op
        ·have Hop := Lib.hid (show op - y = ro by omega)
         have Hpt := Lib.hid (show prdB cs.length (fitS cs ss) (wAt cs) d k left op q = true by rw [Hpq.out, Hsu.out, decide_eq_true Hb1.out, decide_eq_true hs]; rfl)
         have he2 : (y + ro == op) = true := by rw [hs]; simp
         have hrJ := Hset.out.below HbJ.out; have hfk : (fs.set k ⟨s.key, noFi.who⟩)[k]? = some ⟨s.key, ⟨#[]⟩⟩ := by rw [List.getElem?_set_self (by rw [HI1.out.flen]; exact hlt)]; rfl
         have zo := hrJ.cell (i := k) (j := 1) (r := fiRow ⟨s.key, ⟨#[]⟩⟩) (u := .string ⟨#[]⟩) (by rw [List.getElem?_map, hfk]; rfl) rfl
         have hfr := fun o => hrJ.free o
         have hset := (fi_set hrJ hfk c.who).2; rw [List.set_set] at hset
         simp only [Nat.zero_add] at hset zo
         have hgk := gb_setCell wJ gF (k * 2 + 1) (.string c.who); have hNK := nums_row HNo.out hgk hrJ.heap.choose_spec; have hbK := (HbC.out.trans (HbJ.out.mono (by have := HbC.out.size; have := HhF.out; omega))).setCell (p := ⟨gF, k * 2 + 1, none⟩) (Nat.le_refl _) (.string c.who)
         clear hs
         have hne : X13 ≠ gF := fun e => by
          obtain ⟨cu, hcu⟩ := hrJ.heap; rw [← e, H13.out] at hcu
          cases hcu
         go_upto_region 17 with fail
         have h13K := heap_far (o := k * 2 + 1) (u := .string c.who) H13.out hne; obtain ⟨WK, hWK⟩ : ∃ W, wJ.setCell ⟨gF, k * 2 + 1, none⟩ (.string c.who) = W := ⟨_, rfl⟩
         rw [hWK] at hset hNK hbK h13K ⊢
         have z0 := cell_at h13K 0 rfl; have z1 := cell_at h13K 1 rfl; have z2 := cell_at h13K 2 rfl; have z3 := cell_at h13K 3 rfl; have z4 := cell_at h13K 4 rfl
         have Hfin := Lib.hid (show ∀ W, Below WK.heap.size WK W → BInv cs ss F 0 w3 (k + 1) out (op - y) (fs.set k ⟨s.key, c.who⟩) (.slice oa out.length oc) W from fun W hW =>
          HI1.out.next hlt (x := q + 1) (by rw [Hsk.out]) Hnm.out (by rw [Hd.out.1, Hd.out.2, Hbg.out]; exact bestGo_some Hne.out hlq Hpt.out Hpre.out) (hNK.below hW) Hon.out Hot.out Hol.out (by rw [Hop.out]; exact hgb) (by rw [HhF.out]; exact hset.below hW) (by rw [HhF.out]; exact hbK.trans (hW.mono (by have := hbK.size; have := HhF.out; omega))))
         clear hset hgk hNK hbK h13K hWK zo hfk hfr hrJ hne he2 r1 r3 r9; go_wp2_with fail
         refine (CWo.out _).mono ?_; rintro e wL ⟨rfl, hbL⟩; have Hn := Lib.hid (Hfin.out wL hbL); go_wp2_with fail
         go_roundw
         case rel => exact ⟨k + 1, out, op - y, _, by omega, by go_num, rfl, Hn⟩
         case measure => simp [intOf]; omega
        ·have he2 : (y + ro == op) = false := beq_eq_false_iff_ne.2 hs
         have Hp := Lib.hid (Hskip.out (by rw [Hpq.out, decide_eq_false hs]; simp))
         clear hs z0 z1 z2 z3 z4 r1 r3 r9; go_wp2_with fail
         go_roundw
         case rel => exact ⟨q + 1, by omega, by go_num, rfl, rfl, Hp, HbJ⟩
         case measure => simp [intOf]; omega
      ·have b1' : decide ((out.length : Int) < (left.length : Int)) = false := decide_eq_false (by omega)
       have Hp := Lib.hid (Hskip.out (by rw [Hpq.out, decide_eq_false b1]; simp))
       have b1n : decide (out.length < left.length) = false := decide_eq_false b1
       go_wp2_with fail
       go_roundw
       case rel => exact ⟨q + 1, by omega, by go_num, rfl, rfl, Hp, HbG⟩
       case measure => simp [intOf]; omega
     ·obtain rfl : q = cs.length := by omega
      have Hn := Lib.hid (Hend.out wr Hbq.out (bestGo_none Hne.out Hpre.out)); go_wp2_with fail
      go_roundw
      case rel => exact ⟨k + 1, left, op, _, by omega, by go_num, rfl, Hn⟩
      case measure => simp [intOf]; omega
  ·obtain rfl : k = ss.length := by omega
   have hb := HI.out.below; go_wp2_with fail
   go_ret
   have hfs : fs = F := by
    have := HI.out.fin
    rw [Nat.sub_self, ← HI.out.flen, List.take_length] at this
    simpa [bestGo, finL] using this
   rw [hfs] at HI
   refine ⟨_, rfl, ?_, below_step Hbw3.out hb⟩; have := HI.out.rows.rows (lo := w.heap.size) (cap := ss.length) (by have := HI.out.flen; simp; omega) Hbw3.out.size (by have := HI.out.flen; simp; omega)
   rw [← HgF.out, HFe.out]; simpa [Fis, HI.out.flen] using this
end Go.Proofs.YtfcaokpadodijaaGreat
/- score.Left: what the best line-up brings more. -/
namespace Go.Proofs.YtfcaokpadodijaaGreat
open Go.RowKit Go.Proofs.YtfcaokpadodijaaGreat.Mat

theorem finL_length (cs : List ScD) (ss : List SlD) : ∀ (j : Nat) (xs : List Nat), (finL cs ss j xs).length = xs.length
 | _, [] => rfl
 | j, _ :: xs => by rw [finL, List.length_cons, List.length_cons, finL_length cs ss (j + 1) xs]
theorem bestGo_length {n : Nat} {fit : Nat → Nat → Bool} {w : Nat → Int} : ∀ (d i : Nat) (left : List Nat) (op : Int), (bestGo n fit w d i left op).length = d
 | 0, _, _, _ => rfl
 | d + 1, i, left, op => by
  unfold bestGo; split
  ·rw [List.length_cons, bestGo_length d]
  ·split
   ·rw [List.length_cons, bestGo_length d]
   ·rw [List.length_cons, bestGo_length d]
theorem bstF_length (ss : List SlD) (cs : List ScD) : (bstF ss cs).length = ss.length := by
 unfold bstF
 rw [finL_length, bestGo_length]
theorem sumFi_small {cs : List ScD} (h : ∀ c ∈ cs, FitW c) (fs : List FiD) (hn : fs.length ≤ 1000000) : -1000000000000 ≤ sumFi cs fs ∧ sumFi cs fs ≤ 1000000000000 := by
 have := sumTo_small (f := wthAt cs fs) (fun i => wth_small (fit_fnd h _)) fs.length
 unfold sumFi
 omega
end Go.Proofs.YtfcaokpadodijaaGreat
/- What the best line-up brings: all ways tried, and summed by its names. Plain facts. -/
namespace Go.Proofs.YtfcaokpadodijaaGreat
open Go.RowKit Go.Proofs.YtfcaokpadodijaaGreat.Mat

def wN (w : Nat → Int) (x : Nat) : Int := if x = 0 then 0 else w (x - 1)
def sumN (w : Nat → Int) : List Nat → Int
 | [] => 0
 | x :: xs => wN w x + sumN w xs
theorem dp_sum {n : Nat} {fit : Nat → Nat → Bool} {el : Nat → Bool} {w : Nat → Int} : ∀ (d i u : Nat), (dp n fit el w d i u).sum = sumN w (dp n fit el w d i u).who ∧ (dp n fit el w d i u).who.length = d ∧ ∀ x ∈ (dp n fit el w d i u).who, x ≤ n
 | 0, _, _ => ⟨rfl, rfl, fun x h => by cases h⟩
 | d + 1, i, u => by
  have hd : dp n fit el w (d + 1) i u = (List.range n).foldl (pickB (okK fit el i u) fun k => candK w (dp n fit el w d (i + 1) (u ||| (1 <<< k))) k) ⟨(dp n fit el w d (i + 1) u).sum, (dp n fit el w d (i + 1) u).many, 0 :: (dp n fit el w d (i + 1) u).who⟩ := rfl
  have hfm := (foldl_max (ok := okK fit el i u) (c := fun k => candK w (dp n fit el w d (i + 1) (u ||| (1 <<< k))) k) (List.range n) ⟨(dp n fit el w d (i + 1) u).sum, (dp n fit el w d (i + 1) u).many, 0 :: (dp n fit el w d (i + 1) u).who⟩).2.2
  rw [← hd] at hfm
  rcases hfm with e | ⟨k, hk, _, e⟩
  ·obtain ⟨h1, h2, h3⟩ := dp_sum (n := n) (fit := fit) (el := el) (w := w) d (i + 1) u
   rw [e]; refine ⟨?_, by simp [h2], fun x hx => ?_⟩
   ·show _ = wN w 0 + _
    rw [h1]; unfold wN; simp
   ·rcases List.mem_cons.1 hx with rfl | hx
    ·exact Nat.zero_le _
    ·exact h3 x hx
  ·obtain ⟨h1, h2, h3⟩ := dp_sum (n := n) (fit := fit) (el := el) (w := w) d (i + 1) (u ||| (1 <<< k))
   have hkn := List.mem_range.1 hk; rw [e]; refine ⟨?_, by simp [candK, h2], fun x hx => ?_⟩
   ·show (dp n fit el w d (i + 1) (u ||| (1 <<< k))).sum + w k = wN w (k + 1) + sumN w _
    rw [h1]; unfold wN; simp; omega
   ·rcases List.mem_cons.1 hx with rfl | hx
    ·omega
    ·exact h3 x hx
theorem sumTo_shift (f : Nat → Int) : ∀ n, sumTo f (n + 1) = f 0 + sumTo (fun i => f (i + 1)) n
 | 0 => by simp [sumTo]
 | n + 1 => by
  have := sumTo_shift f n
  have e : sumTo f (n + 1 + 1) = sumTo f (n + 1) + f (n + 1) := rfl
  have e2 : sumTo (fun i => f (i + 1)) (n + 1) = sumTo (fun i => f (i + 1)) n + f (n + 1) := rfl
  rw [e, e2, this]; omega
theorem sum_names {cs : List ScD} {ss : List SlD} (hsort : SortedK (cs.map ScD.who)) (hne : ∀ c ∈ cs, c.who.size ≠ 0) : ∀ (j : Nat) (xs : List Nat), (∀ x ∈ xs, x ≤ cs.length) → sumFi cs (finL cs ss j xs) = sumN (wAt cs) xs
 | _, [], _ => rfl
 | j, x :: xs, h => by
  have ih := sum_names (ss := ss) hsort hne (j + 1) xs (fun y hy => h y (List.mem_cons_of_mem _ hy))
  unfold sumFi at ih ⊢
  rw [finL, List.length_cons, sumTo_shift]
  have e : (fun i => wthAt cs (⟨(slAt ss j).key, nameOf cs x⟩ :: finL cs ss (j + 1) xs) (i + 1)) = wthAt cs (finL cs ss (j + 1) xs) := by
   funext i
   unfold wthAt fiAt
   rw [List.getElem?_cons_succ]
  rw [e, ih]; show wthC (fndC cs (nameOf cs x)) + _ = wN (wAt cs) x + _
  have e2 : wthC (fndC cs (nameOf cs x)) = wN (wAt cs) x := by
   unfold wN; by_cases hx : x = 0
   ·rw [if_pos hx]
    have : nameOf cs x = ⟨#[]⟩ := by unfold nameOf; rw [if_pos hx]
    rw [this, (fnd_none hsort (fun c hc => by
     cases hb : beqS c.who ⟨#[]⟩
     ·rfl
     ·exact absurd (congrArg ByteArray.size (eq_of_beqS hb)) (hne c hc))).2]
    rfl
   ·rw [if_neg hx]
    have hxl := h x (by simp)
    have hi : cs[x - 1]? = some cs[x - 1] := List.getElem?_eq_getElem (by omega)
    have : nameOf cs x = cs[x - 1].who := by unfold nameOf; rw [if_neg hx, scAt_some hi]
    rw [this, (fnd_at hsort hi rfl).2.2]; unfold wAt; rw [scAt_some hi]
  rw [e2]
end Go.Proofs.YtfcaokpadodijaaGreat
namespace Go.Proofs.YtfcaokpadodijaaGreat
open Go.RowKit Go.Proofs.YtfcaokpadodijaaGreat.Mat

theorem results_tct {fn : Func} {p u v : Tmp} {ty : TypeId} (h : fn.results = #[.tmp v, .cell p ty, .tmp u]) (tmps : Array Value) (P : Program) (w : World) :
  (results fn tmps).run P w =
   ((asAddr (tmps.getD p undef)).run P w).andThen fun a w₁ => ((loadVar ty a).run P w₁).andThen fun x w₂ => .ok (.tuple #[tmps.getD v undef, x, tmps.getD u undef]) w₂ := by
 simp only [results, h]
 simp [Sem.run_bind, Result.andThen]
theorem rows_far {w : World} {lo X T T' sz o : Nat} {v u : Value} {rows : List (List Value)} {cur : Array Value} (h : Rows w T' lo sz v rows) (hX : w.heap[X]? = some (.cells cur T (0, 0))) (hT : T ≠ T') : Rows (w.setCell ⟨X, o, none⟩ u) T' lo sz v rows :=
 Rows.lift h fun g c fr _ hg => Below.heap_setCell w _ _ _ (by
  show g ≠ X
  rintro rfl; rw [hX] at hg
  cases hg
  exact hT rfl)
noncomputable def bexF (ss : List SlD) (cs : List ScD) : Int × Int := if sdE ss cs = 0 then lowF (sumFi cs (bstF ss cs)) 100 else (0, 0)
noncomputable def bexL (ss : List SlD) (cs : List ScD) : List FiD := if sdE ss cs = 0 then bstF ss cs else []
/-- What Best answers. -/
def BexV (ss : List SlD) (cs : List ScD) (w : World) (e : Ending) (w' : World) : Prop :=
 ∃ x, e = .returned (.tuple #[x, frV (bexF ss cs), .int .i64 (sdE ss cs)]) ∧ Fis w' 0 x (bexL ss cs) ∧ Below w.heap.size w w'
set_option maxRecDepth 100000 in
set_option maxHeartbeats 4000000 in
theorem scoreBest_calls (lo lo' : Nat) (v u : Value) (ss : List SlD) (cs : List ScD) (w : World) (hS : Sls w lo' v ss) (hs : ∀ c ∈ ss, SmallSl c) (hsn : ss.length ≤ 1000) (hC : Scs w lo u cs) (hc : ∀ c ∈ cs, SmallSc c) (hn : cs.length ≤ 12) (hlo : lo ≤ w.heap.size) (hfit : sdE ss cs = 0 → ∀ c ∈ cs, FitW c) :
  Calls Tryz.prog 29 #[v, u] w (BexV ss cs w) := by
 obtain ⟨W, hW⟩ : ∃ W, W = w.alloc (.cells #[.int .i64 0, .int .i64 0] 34) := ⟨_, rfl⟩
 have hwW : Below w.heap.size w W := by rw [hW]; exact below_alloc w _
 have hx : W.heap[w.heap.size]? = some (.cells #[.int .i64 0, .int .i64 0] 34 (0, 0)) := by rw [hW]; exact heap_alloc_new w _
 have CK := Lib.hid (wrongSides_calls lo' lo v u ss cs W (hS.below hwW) hs (by omega) (hC.below hwW) hc (by omega))
 have CB := Lib.hid (fun (h : sdE ss cs = 0) (V : World) (hb : Below w.heap.size w V) => best_calls lo lo' u v cs ss V (hC.below hb) (hS.below hb) hn hsn (hfit h))
 have CT := Lib.hid (fun (h : sdE ss cs = 0) (V : World) (hb : Below w.heap.size w V) (l : Nat) (x : Value) (hx : Fis V l x (bstF ss cs)) => sum_calls lo l u x cs (bstF ss cs) V (hC.below hb) (by have := hb.size; omega) hx (by rw [bstF_length]; omega) (hfit h))
 have Hsm := Lib.hid (fun (h : sdE ss cs = 0) => sumFi_small (hfit h) (bstF ss cs) (by rw [bstF_length]; omega))
 have HL := Lib.hid (show bexF ss cs = if sdE ss cs = 0 then lowF (sumFi cs (bstF ss cs)) 100 else (0, 0) from rfl)
 have HB := Lib.hid (show bexL ss cs = if sdE ss cs = 0 then bstF ss cs else [] from rfl)
 unfold BexV
 obtain ⟨a, c, rfl⟩ := NRows.shape hC
 obtain ⟨a2, c2, rfl⟩ := NRows.shape hS
 have Hx := Lib.hid hx
 have HwW := Lib.hid hwW
 generalize bexF ss cs = R at HL ⊢
 generalize bexL ss cs = BL at HB ⊢
 generalize sdE ss cs = E at CK CB CT Hsm HL HB ⊢
 obtain ⟨X, hX⟩ : ∃ X, w.heap.size = X := ⟨_, rfl⟩
 have HX := Lib.hid hX
 clear hS hs hC hc hfit hx hwW hX
 go_enter Tryz.func29, Tryz.ntmps29
 go_upto_region 1 with fail
 rw [← hW, HX.out]
 rw [HX.out] at Hx
 clear hW
 go_wp2_with fail
 refine CK.out.mono ?_
 rintro e w1 ⟨rfl, hb1⟩
 have Hb1 := Lib.hid (below_step HwW.out hb1)
 have Hx1 := Lib.hid (cells_later Hx.out hb1)
 clear hb1 Hx
 by_cases hz : E = 0
 ·subst hz
  have HL2 := Lib.hid (show R = lowF (sumFi cs (bstF ss cs)) 100 by rw [HL.out, if_pos rfl])
  have HB2 := Lib.hid (show BL = bstF ss cs by rw [HB.out, if_pos rfl])
  have CB2 := Lib.hid (CB.out rfl); have CT2 := Lib.hid (CT.out rfl); have Hsm2 := Lib.hid (Hsm.out rfl); clear HL CB CT Hsm HB; go_wp2_with fail
  refine (CB2.out _ Hb1.out).mono ?_; rintro e w2 ⟨v2, rfl, hv2, hb2⟩; have Hb2 := Lib.hid (below_step Hb1.out hb2); have Hx2 := Lib.hid (cells_later Hx1.out hb2); obtain ⟨fa, fc, rfl⟩ := fis_shape hv2; have Hv2 := Lib.hid hv2; clear hb2 hv2; go_wp2_with fail
  refine (CT2.out _ Hb2.out _ _ Hv2.out).mono ?_; rintro e w3 ⟨rfl, hb3⟩; have Hb3 := Lib.hid (below_step Hb2.out hb3); have Hx3 := Lib.hid (cells_later Hx2.out hb3); have Hv3 := Lib.hid (Hv2.out.below hb3); obtain ⟨hm1, hm2⟩ := Hsm2.out; generalize sumFi cs (bstF ss cs) = s1 at hm1 hm2 HL2 ⊢
  generalize bstF ss cs = bst at Hv3 HB2 ⊢
  clear hb3 CT2 CB2 Hv2 Hsm2; go_wp2_with fail
  refine (ofHundredths_calls _ _ (by unfold Int64; omega)).mono ?_
  rintro e w5 ⟨rfl, hb5⟩; have Hb5 := Lib.hid (below_step Hb3.out hb5); have hf := cells_later Hx3.out hb5; have f0 := free_of hf 0; have f1 := free_of hf 1; have g0 := cell_at hf 0 rfl; have g1 := cell_at hf 1 rfl; have Hv5 := Lib.hid (Hv3.out.below hb5); rw [← HL2.out]; have Hf := Lib.hid hf; clear hb5 hf hm1 hm2; rw [show frV R = .agg #[.int .i64 R.1, .int .i64 R.2] from rfl]
  obtain ⟨q1, q2⟩ := R; dsimp only
  go_wp2_with fail
  try simp only [Exit.inBlock, Exit.then]
  refine bodyPost_ret (v := .tuple #[.slice fa bst.length fc, .agg #[.int .i64 q1, .int .i64 q2], .int .i64 0]) ?_ rfl ⟨_, rfl, ?_, (Hb5.out.setCell (p := ⟨X, 0, none⟩) (by rw [HX.out]; exact Nat.le_refl _) _).setCell (p := ⟨X, 1, none⟩) (by rw [HX.out]; exact Nat.le_refl _) _⟩
  ·rw [results_tct rfl]
   go_simp
  ·rw [HB2.out]
   exact rows_far (rows_far (Rows.mono Hv5.out (Nat.zero_le _)) Hf.out (by decide)) (set_cells Hf.out _) (by decide)
 ·have e1 : (E != 0) = true := by simp [hz]
  obtain rfl : R = (0, 0) := by rw [HL.out, if_neg hz]
  have hbl : BL = [] := by rw [HB.out, if_neg hz]
  have hf := Hx1.out; have f0 := free_of hf 0; have f1 := free_of hf 1; have g0 := cell_at hf 0 rfl; have g1 := cell_at hf 1 rfl; clear hz hf; go_wp2_with fail
  try simp only [Exit.inBlock, Exit.then]
  refine bodyPost_ret (v := .tuple #[.slice none 0 0, .agg #[.int .i64 0, .int .i64 0], .int .i64 E]) ?_ rfl ⟨_, rfl, by rw [hbl]; exact fis_nil _ _, (Hb1.out.setCell (p := ⟨X, 0, none⟩) (by rw [HX.out]; exact Nat.le_refl _) _).setCell (p := ⟨X, 1, none⟩) (by rw [HX.out]; exact Nat.le_refl _) _⟩
  rw [results_tct rfl]; go_simp
end Go.Proofs.YtfcaokpadodijaaGreat
