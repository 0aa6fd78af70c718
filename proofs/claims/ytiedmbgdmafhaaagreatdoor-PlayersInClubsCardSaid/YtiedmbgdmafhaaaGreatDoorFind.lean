/- Find: words, begun, fits. -/
import Derived.Test.YtiedmbgdmafhaaaGreatDoorReff
namespace Go.Proofs.YtiedmbgdmafhaaaGreatDoor
open Go.RowKit

def lowC (x : Int) : Int := if 65 ≤ x ∧ x ≤ 90 then x + 32 else x
def lowS (s : ByteArray) : ByteArray := ⟨(Lib.mapD lowC s.data.toList).toArray⟩
def wordsL (s : ByteArray) : List ByteArray := Lib.splitB ⟨#[32]⟩ 0 (Lib.countB (lowS s) ⟨#[32]⟩) (lowS s)
/-- A string whose words are few. -/
def WordsOk (s : ByteArray) : Prop := s.size ≤ 1000000 ∧ (lowS s).size ≤ 1000000 ∧ (wordsL s).length = Lib.countB (lowS s) ⟨#[32]⟩ + 1 ∧ (wordsL s).length ≤ 1000000
set_option maxRecDepth 100000 in
set_option maxHeartbeats 1000000 in
theorem low_calls (x : Nat) (w : World) (hx : x ≤ 1114111) :
    Calls Tryz.prog 211 #[.int .i32 (x : Int)] w fun e w' => e = .returned (.int .i32 (lowC x)) ∧ Below w.heap.size w w' := by
  by_cases h1 : 65 ≤ x
  · by_cases h2 : x ≤ 90
    · have HE := Lib.hid (show lowC x = (x : Int) - 65 + 97 by unfold lowC; rw [if_pos (by omega)]; omega)
      have w1 : IntKind.i32.wrap ((x : Int) - 65) = (x : Int) - 65 := by rw [IntWalk.i32_in _ (by omega)]
      have w2 : IntKind.i32.wrap ((x : Int) - 65 + 97) = (x : Int) - 65 + 97 := by rw [IntWalk.i32_in _ (by omega)]
      go_enter Tryz.func211, Tryz.ntmps211
      go_wp2_with fail
      go_ret
      refine ⟨?_, Below.refl _ _⟩
      rw [HE.out]
      rfl
    · have HE := Lib.hid (show lowC x = (x : Int) by unfold lowC; rw [if_neg (by omega)])
      go_enter Tryz.func211, Tryz.ntmps211
      go_wp2_with fail
      go_ret
      refine ⟨?_, Below.refl _ _⟩
      rw [HE.out]
      rfl
  · have HE := Lib.hid (show lowC x = (x : Int) by unfold lowC; rw [if_neg (by omega)])
    go_enter Tryz.func211, Tryz.ntmps211
    go_wp2_with fail
    go_ret
    refine ⟨?_, Below.refl _ _⟩
    rw [HE.out]
    rfl
def SomeS (ks : List ByteArray) (w : World) (e : Ending) (w' : World) : Prop := ∃ v, e = .returned v ∧ Strs w' w.heap.size v ks ∧ Below w.heap.size w w'
set_option maxRecDepth 100000 in
set_option maxHeartbeats 1000000 in
theorem words_calls (s : ByteArray) (w : World) (hs : WordsOk s) (hG : Glob w) :
    Calls Tryz.prog 137 #[.string s] w (SomeS (wordsL s) w) := by
  obtain ⟨h1, h2, h3, h4⟩ := hs
  have cM := Tryz.strings_Map_grows 211 #[] (enters_of Tryz.func211 (by kernel_rfl) rfl) lowC s w (by omega) (fun W x hx _ => low_calls x W hx) (fun x hx => by unfold lowC; split <;> omega) hG.1
  have CM := Lib.hid cM
  have HL := Lib.hid (show lowS s = ⟨(Lib.mapD lowC s.data.toList).toArray⟩ from rfl)
  have HG := Lib.hid hG
  clear cM hG
  go_enter Tryz.func137, Tryz.ntmps137
  go_wp2_with fail
  refine CM.out.mono ?_
  rintro e w1 ⟨rfl, hb1⟩
  rw [← HL.out]
  have hG1 := HG.out.below hb1
  obtain ⟨m, hm⟩ := hG1.2
  have HM := Lib.hid hm
  clear hm hG1
  go_wp2_with fail
  refine (Tryz.strings_Split (lowS s) ⟨#[32]⟩ m w1 (by omega) HM.out (by decide)).mono ?_
  rintro e w2 ⟨rfl, h⟩
  have hst := strs_new w1 (wordsL s) h4
  have hbb := below_step hb1 (below_alloc w1 (.cells ((wordsL s).map Value.string).toArray 9))
  rw [show w1.alloc (.cells ((wordsL s).map Value.string).toArray 9) = w2 from h.symm, h3] at hst
  rw [show w1.alloc (.cells ((wordsL s).map Value.string).toArray 9) = w2 from h.symm] at hbb
  have HST := Lib.hid hst
  have HB := Lib.hid hb1.size
  clear hst h hb1
  go_wp2_with fail
  go_ret
  refine ⟨_, rfl, ?_, hbb⟩
  exact Strs.mono HST.out HB.out

def begunN (ks : List ByteArray) (b : ByteArray) : Nat := (ks.filter fun k => Lib.hasPrefix k.data.toList b.data.toList).length
theorem begunN_snoc {ks : List ByteArray} {b : ByteArray} {k : Nat} {s : ByteArray} (hk : ks[k]? = some s) : begunN (ks.take (k + 1)) b = begunN (ks.take k) b + if Lib.hasPrefix s.data.toList b.data.toList then 1 else 0 := by
  have hlt : k < ks.length := (List.getElem?_eq_some_iff.1 hk).1
  have e : ks.take (k + 1) = ks.take k ++ [s] := by
    rw [List.take_succ_eq_append_getElem hlt, (List.getElem?_eq_some_iff.1 hk).2]
  unfold begunN
  rw [e, List.filter_append, List.length_append]
  cases hf : Lib.hasPrefix s.data.toList b.data.toList <;> simp [hf]
theorem begunN_le (ks : List ByteArray) (b : ByteArray) : begunN ks b ≤ ks.length := List.length_filter_le _ _
set_option maxRecDepth 100000 in
set_option maxHeartbeats 1000000 in
theorem begun_calls (lo : Nat) (b : ByteArray) (v : Value) (ks : List ByteArray) (w : World) (hv : Strs w lo v ks) (hn : ks.length ≤ 1000000) :
    Calls Tryz.prog 214 #[v, .string b] w fun e w' => e = .returned (.int .i64 (begunN ks b : Int)) ∧ w = w' := by
  rcases strs_at hv with ⟨rfl, rfl⟩ | ⟨g, off, cap, rfl, hlo, hg, hn', hcell⟩
  · clear hv
    go_enter Tryz.func214, Tryz.ntmps214
    go_wp2
    refine wp_loop_rounds 1 ?_
    rw [rounds_succ]
    go_wp2
    go_ret
    exact ⟨rfl, rfl⟩
  · have Hc := Lib.hid hcell
    clear hcell hv
    go_enter Tryz.func214, Tryz.ntmps214
    go_wp2_with fail
    go_loop [5, 10] (fun c i => ∃ k : Nat, k ≤ ks.length ∧ i = .int .i64 k ∧ c = .int .i64 (begunN (ks.take k) b : Int)) (fun _ i => ks.length - (intOf i).toNat)
    case atStart => exact ⟨0, Nat.zero_le _, rfl, rfl⟩
    case round =>
      obtain ⟨k, hk, rfl, rfl⟩ := hrel
      by_cases hlt : k < ks.length
      · obtain ⟨s, hs⟩ : ∃ s, ks[k]? = some s := ⟨ks[k], List.getElem?_eq_getElem hlt⟩
        have hcs := Hc.out k s hs
        have Hn := Lib.hid (begunN_snoc (b := b) hs)
        have hle := begunN_le (ks.take k) b
        have hle2 : begunN (ks.take k) b ≤ k := Nat.le_trans hle (List.length_take_le k ks)
        clear hs hle
        generalize begunN (ks.take k) b = c at *
        cases hp : Lib.hasPrefix s.data.toList b.data.toList
        · have Hp := Lib.hid hp
          have Hn' := Lib.hid (show begunN (ks.take (k + 1)) b = c by rw [Hn.out, hp]; rfl)
          clear hp
          go_wp2_with fail
          refine (Tryz.strings_HasPrefix s b w).mono ?_
          rintro e w' ⟨rfl, h⟩
          subst h
          rw [Hp.out]
          go_wp2_with fail
          go_round
          case rel => exact ⟨k + 1, by omega, by go_num, by rw [Hn'.out]⟩
          case measure => simp [intOf]; omega
        · have Hp := Lib.hid hp
          have Hn' := Lib.hid (show begunN (ks.take (k + 1)) b = c + 1 by rw [Hn.out, hp]; rfl)
          clear hp
          go_wp2_with fail
          refine (Tryz.strings_HasPrefix s b w).mono ?_
          rintro e w' ⟨rfl, h⟩
          subst h
          rw [Hp.out]
          go_wp2_with fail
          go_round
          case rel => exact ⟨k + 1, by omega, by go_num, by rw [Hn'.out]; go_num⟩
          case measure => simp [intOf]; omega
      · obtain rfl : k = ks.length := by omega
        go_wp2_with fail
        go_ret
        exact ⟨rfl, rfl⟩

def lackB (wanted name : List ByteArray) (b : ByteArray) : Bool := decide (begunN name b < begunN wanted b)
def fitsB (wanted name : List ByteArray) : Bool := !(wanted.any (lackB wanted name))
set_option maxRecDepth 100000 in
set_option maxHeartbeats 2000000 in
theorem fits1_calls (cn cw lo lo' : Nat) (b : ByteArray) (vn vw : Value) (wanted name : List ByteArray) (w : World) (hw : Strs w lo vw wanted) (hn : Strs w lo' vn name) (hwn : wanted.length ≤ 1000000) (hnn : name.length ≤ 1000000)
    (h1 : w.cell? ⟨cn, 0, none⟩ = some vn) (h2 : w.cell? ⟨cw, 0, none⟩ = some vw) :
    Calls Tryz.prog 213 #[.string b, .pointer (some ⟨cn, 0, none⟩), .pointer (some ⟨cw, 0, none⟩)] w (BoolIs (lackB wanted name b) w) := by
  obtain ⟨na, nc, rfl⟩ := strs_shape' hn
  obtain ⟨wa, wc, rfl⟩ := strs_shape' hw
  have HS := Lib.hid (show ∀ w', Below w.heap.size w w' → (Below w.heap.size w w' ∧ Strs w' lo (.slice wa wanted.length wc) wanted ∧ Strs w' lo' (.slice na name.length nc) name ∧ w'.cell? ⟨cn, 0, none⟩ = some (.slice na name.length nc) ∧ w'.cell? ⟨cw, 0, none⟩ = some (.slice wa wanted.length wc)) from fun w' hb => ⟨hb, hw.below hb, hn.below hb, below_cell hb h1, below_cell hb h2⟩)
  have hb0 := (Below.refl w.heap.size w).drew
  clear hw hn h1 h2
  go_enter Tryz.func213, Tryz.ntmps213
  go_upto_region 1 with fail
  refine wp_region_held_drew (S := fun w' => Below w.heap.size w w' ∧ Strs w' lo (.slice wa wanted.length wc) wanted ∧ Strs w' lo' (.slice na name.length nc) name ∧ w'.cell? ⟨cn, 0, none⟩ = some (.slice na name.length nc) ∧ w'.cell? ⟨cw, 0, none⟩ = some (.slice wa wanted.length wc)) (by kernel_rfl) ?_ (fun hHeld => ?_)
  · (exact HS.out _ (by first | assumption | exact hHeld.1 | exact below_step hHeld.1 (by assumption) | exact below_step hHeld.1 (below_alloc _ _)))
  refine take_at 0 5 (v := ?_) rfl rfl (by kernel_rfl) (by kernel_rfl) (by kernel_rfl) (fun _ _ _ h => h) (by rfl) ?y0 (by assumption) ?r0
  case y0 =>
    intro w hSw
    try dsimp only at hSw
    go_simp
    try with_reducible rfl
  simp only [List.set_cons_zero, List.set_cons_succ]
  refine take_at 1 6 (v := ?_) rfl rfl (by kernel_rfl) (by kernel_rfl) (by kernel_rfl) (fun _ _ _ h => h) (by rfl) ?y1 (by assumption) ?r1
  case y1 =>
    intro w hSw
    try dsimp only at hSw
    go_simp
    try with_reducible rfl
  simp only [List.set_cons_zero, List.set_cons_succ]
  refine take_at 3 8 (v := ?_) rfl rfl (by kernel_rfl) (by kernel_rfl) (by kernel_rfl) (fun _ _ _ h => h) (by rfl) ?y3 (by assumption) ?r3
  case y3 =>
    intro w hSw
    try dsimp only at hSw
    go_simp
    try with_reducible rfl
  simp only [List.set_cons_zero, List.set_cons_succ]
  refine take_at 4 9 (v := ?_) rfl rfl (by kernel_rfl) (by kernel_rfl) (by kernel_rfl) (fun _ _ _ h => h) (by rfl) ?y4 (by assumption) ?r4
  case y4 =>
    intro w hSw
    try dsimp only at hSw
    go_simp
    try with_reducible rfl
  simp only [List.set_cons_zero, List.set_cons_succ]
  refine run_at 2 rfl (by kernel_rfl) (by rfl) (fun K hK => ?_)
  go_simp
  refine (begun_calls lo' b _ name _ (by exact hHeld.2.2.1) hnn).mono ?_
  rintro e w' ⟨rfl, rfl⟩
  go_wp2_with fail
  refine hK.out _ _ ?_ (fun hHeld => ?_)
  · (exact HS.out _ (by first | assumption | exact hHeld.1 | exact below_step hHeld.1 (by assumption) | exact below_step hHeld.1 (below_alloc _ _)))
  clear hK K
  try simp only [Act.put, List.setIfInBounds_toArray, List.set_cons_zero, List.set_cons_succ]
  refine run_at 5 rfl (by kernel_rfl) (by rfl) (fun K hK => ?_)
  go_simp
  refine (begun_calls lo b _ wanted _ (by exact hHeld.2.1) hwn).mono ?_
  rintro e w' ⟨rfl, rfl⟩
  go_wp2_with fail
  refine hK.out _ _ ?_ (fun hHeld => ?_)
  · (exact HS.out _ (by first | assumption | exact hHeld.1 | exact below_step hHeld.1 (by assumption) | exact below_step hHeld.1 (below_alloc _ _)))
  clear hK K
  try simp only [Act.put, List.setIfInBounds_toArray, List.set_cons_zero, List.set_cons_succ]
  refine take_at 6 11 (v := ?_) rfl rfl (by kernel_rfl) (by kernel_rfl) (by kernel_rfl) (fun _ _ _ h => h) (by rfl) ?y6 (by assumption) ?r6
  case y6 =>
    intro w hSw
    try dsimp only at hSw
    go_simp
    try with_reducible rfl
  simp only [List.set_cons_zero, List.set_cons_succ]
  refine take_at 7 4 (v := ?_) rfl rfl (by kernel_rfl) (by kernel_rfl) (by kernel_rfl) (fun _ _ _ h => h) (by rfl) ?y7 (by assumption) ?r7
  case y7 =>
    intro w hSw
    try dsimp only at hSw
    go_simp
    try with_reducible rfl
  simp only [List.set_cons_zero, List.set_cons_succ]
  refine wpAnyH_done (by kernel_rfl) ?_ _
  go_wp2_with fail
  go_ret
  exact ⟨rfl, hHeld.1⟩

set_option maxRecDepth 100000 in
set_option maxHeartbeats 1000000 in
theorem indexS_calls (g : Nat) (caps : Array Value) (eg : ∀ args w, (callFunc g args).run Tryz.prog w = .ok (.enter g args) w) (f : ByteArray → Bool) (lo : Nat) (v : Value) (ks : List ByteArray) (w : World) (hv : Strs w lo v ks)
    (hf : ∀ (W : World) (i : Nat) (s : ByteArray), ks[i]? = some s → Below w.heap.size w W → Calls Tryz.prog g (#[.string s] ++ caps) W (BoolIs (f s) W)) :
    Calls Tryz.prog 203 #[v, .func (.func g) #[] caps] w fun e w' => ∃ r : Int, e = .returned (.int .i64 r) ∧ decide (0 ≤ r) = ks.any f ∧ Below w.heap.size w w' := by
  have Hf := Lib.hid hf
  clear hf
  rcases strs_at hv with ⟨rfl, rfl⟩ | ⟨gg, off, cap, rfl, hlo, hg, hn', hcell⟩
  · clear hv
    go_enter Tryz.func203, Tryz.ntmps203
    go_wp2
    refine wp_loop_rounds 1 ?_
    rw [rounds_succ]
    go_wp2
    go_ret
    exact ⟨-1, rfl, rfl, Below.refl _ _⟩
  · have Hc := Lib.hid hcell
    clear hcell hv
    go_enter Tryz.func203, Tryz.ntmps203
    go_wp2_with fail
    go_loopw [8] (fun i wr => ∃ k : Nat, k ≤ ks.length ∧ i = .int .i64 k ∧ Below w.heap.size w wr ∧ Hid (∀ (i : Nat) (s : ByteArray), i < k → ks[i]? = some s → f s = false)) (fun i _ => ks.length - (intOf i).toNat)
    case atStart => exact ⟨0, Nat.zero_le _, rfl, Below.refl _ _, Lib.hid fun _ _ h => by omega⟩
    case round =>
      obtain ⟨k, hk, rfl, hb, H0⟩ := hrel
      by_cases hlt : k < ks.length
      · obtain ⟨s, hs⟩ : ∃ s, ks[k]? = some s := ⟨ks[k], List.getElem?_eq_getElem hlt⟩
        have hcs := below_cell hb (Hc.out k s hs)
        have Hs := Lib.hid hs
        have HB := Lib.hid hb
        clear hs
        cases hq : f s
        · have Hq := Lib.hid hq
          clear hq
          go_wp2_with fail
          refine (Hf.out _ k s Hs.out HB.out).mono ?_
          rintro e w' ⟨rfl, hb'⟩
          rw [Hq.out]
          go_wp2_with fail
          go_roundw
          case rel => exact ⟨k + 1, by omega, by go_num, below_step HB.out hb', Lib.hid fun i q hi hqi => by
            rcases Nat.lt_succ_iff_lt_or_eq.1 hi with h | rfl
            · exact H0.out i q h hqi
            · rw [Hs.out] at hqi; cases hqi; exact Hq.out⟩
          case measure => simp [intOf]; omega
        · have Hq := Lib.hid hq
          clear hq
          go_wp2_with fail
          refine (Hf.out _ k s Hs.out HB.out).mono ?_
          rintro e w' ⟨rfl, hb'⟩
          rw [Hq.out]
          go_wp2_with fail
          go_ret
          refine ⟨k, rfl, ?_, below_step HB.out hb'⟩
          rw [decide_eq_true (by omega)]
          exact (List.any_eq_true.2 ⟨s, List.mem_of_getElem? Hs.out, Hq.out⟩).symm
      · obtain rfl : k = ks.length := by omega
        go_wp2_with fail
        go_ret
        refine ⟨-1, rfl, ?_, hb⟩
        have : ks.any f = false := by
          rw [List.any_eq_false]
          intro s hs
          obtain ⟨i, hi⟩ := List.getElem?_of_mem hs
          rw [H0.out i s (List.getElem?_eq_some_iff.1 hi).1 hi]
          simp
        rw [this]; rfl
set_option maxRecDepth 100000 in
set_option maxHeartbeats 1000000 in
theorem containsS_calls (g : Nat) (caps : Array Value) (eg : ∀ args w, (callFunc g args).run Tryz.prog w = .ok (.enter g args) w) (f : ByteArray → Bool) (lo : Nat) (v : Value) (ks : List ByteArray) (w : World) (hv : Strs w lo v ks)
    (hf : ∀ (W : World) (i : Nat) (s : ByteArray), ks[i]? = some s → Below w.heap.size w W → Calls Tryz.prog g (#[.string s] ++ caps) W (BoolIs (f s) W)) :
    Calls Tryz.prog 212 #[v, .func (.func g) #[] caps] w (BoolIs (ks.any f) w) := by
  have C := Lib.hid (indexS_calls g caps eg f lo v ks w hv hf)
  clear hf hv
  go_enter Tryz.func212, Tryz.ntmps212
  go_wp2_with fail
  refine C.out.mono ?_
  rintro e w' ⟨r, rfl, hr, hb⟩
  have Hr := Lib.hid hr
  clear hr
  go_wp2_with fail
  go_ret
  exact ⟨by rw [← Hr.out]; rfl, hb⟩

set_option maxRecDepth 100000 in
set_option maxHeartbeats 2000000 in
theorem fits_calls (lo lo' : Nat) (vn vw : Value) (wanted name : List ByteArray) (w : World) (hw : Strs w lo vw wanted) (hn : Strs w lo' vn name) (hwn : wanted.length ≤ 1000000) (hnn : name.length ≤ 1000000) :
    Calls Tryz.prog 139 #[vw, vn] w (BoolIs (fitsB wanted name) w) := by
  obtain ⟨na, nc, rfl⟩ := strs_shape' hn
  obtain ⟨wa, wc, rfl⟩ := strs_shape' hw
  obtain ⟨W, hW⟩ : ∃ W, W = (w.alloc (.cells #[.slice wa wanted.length wc] 35)).alloc (.cells #[.slice na name.length nc] 35) := ⟨_, rfl⟩
  have hwW : Below w.heap.size w W := by rw [hW]; exact below2 w _ _
  have x0 : W.cell? ⟨w.heap.size, 0, none⟩ = some (.slice wa wanted.length wc) := by rw [hW, World.cell?_alloc_past _ _ _ (by simp), World.cell?_alloc_at _ _ _ _ rfl]; rfl
  have x1 : W.cell? ⟨w.heap.size + 1, 0, none⟩ = some (.slice na name.length nc) := by rw [hW, World.cell?_alloc_at _ _ _ _ (by simp)]; rfl
  have HS := Lib.hid (show ∀ w', Below W.heap.size W w' → (Below W.heap.size W w' ∧ w'.cell? ⟨w.heap.size, 0, none⟩ = some (.slice wa wanted.length wc) ∧ w'.cell? ⟨w.heap.size + 1, 0, none⟩ = some (.slice na name.length nc)) from fun w' hb => ⟨hb, below_cell hb x0, below_cell hb x1⟩)
  have hb0 := (Below.refl W.heap.size W).drew
  have hwW1 := hw.below hwW
  have hnW1 := hn.below hwW
  have HA := Lib.hid (show ∀ w', Below W.heap.size W w' → Strs w' lo (.slice wa wanted.length wc) wanted ∧ Strs w' lo' (.slice na name.length nc) name ∧ w'.cell? ⟨w.heap.size, 0, none⟩ = some (.slice wa wanted.length wc) ∧ w'.cell? ⟨w.heap.size + 1, 0, none⟩ = some (.slice na name.length nc) from fun w' hb => ⟨hwW1.below hb, hnW1.below hb, below_cell hb x0, below_cell hb x1⟩)
  have HN := Lib.hid (And.intro hwn hnn)
  clear hw hn x1 hwW1 hnW1
  go_enter Tryz.func139, Tryz.ntmps139
  go_upto_region 1 with fail
  try rw [← hW]
  clear hW
  go_wp2_with fail
  refine (containsS_calls 213 _ (enters_of Tryz.func213 (by kernel_rfl) rfl) (lackB wanted name) lo _ wanted W (HA.out W (Below.refl _ _)).1 (fun W' i s hi hb' => ?s1)).mono ?_
  case s1 =>
    obtain ⟨a1, a2, a3, a4⟩ := HA.out W' hb'
    exact fits1_calls _ _ lo lo' s _ _ wanted name W' a1 a2 HN.out.1 HN.out.2 a4 a3
  rintro e w1 ⟨rfl, hb1⟩
  go_wp2_with fail
  go_ret
  exact ⟨rfl, below_step hwW hb1⟩
end Go.Proofs.YtiedmbgdmafhaaaGreatDoor
