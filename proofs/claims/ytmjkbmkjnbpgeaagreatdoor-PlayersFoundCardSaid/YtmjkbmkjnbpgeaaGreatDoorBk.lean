/- Find: words, begun, fits. Find, and the law's one example. Plain facts on the strings that the law draws. Plain facts: the program's and the reference's answers on one are one. The law's one example: listed. -/
import Derived.Test.YtmjkbmkjnbpgeaaGreatDoorBj
namespace Go.Proofs.YtmjkbmkjnbpgeaaGreatDoor
open Go.RowKit

def lowC (x : Int) : Int := if 65 ≤ x ∧ x ≤ 90 then x + 32 else x
def lowS (s : ByteArray) : ByteArray := ⟨(Lib.mapD lowC s.data.toList).toArray⟩
def wordsL (s : ByteArray) : List ByteArray := Lib.splitB ⟨#[32]⟩ 0 (Lib.countB (lowS s) ⟨#[32]⟩) (lowS s)
/-- A string whose words are few. -/
def WordsOk (s : ByteArray) : Prop := s.size ≤ 1000000 ∧ (lowS s).size ≤ 1000000 ∧ (wordsL s).length = Lib.countB (lowS s) ⟨#[32]⟩ + 1 ∧ (wordsL s).length ≤ 1000000
set_option maxRecDepth 100000 in
set_option maxHeartbeats 1000000 in
theorem low_calls (x : Nat) (w : World) (hx : x ≤ 1114111) :
    Calls Tryz.prog 181 #[.int .i32 (x : Int)] w fun e w' => e = .returned (.int .i32 (lowC x)) ∧ Below w.heap.size w w' := by
  by_cases h1 : 65 ≤ x
  · by_cases h2 : x ≤ 90
    · have HE := Lib.hid (show lowC x = (x : Int) - 65 + 97 by unfold lowC; rw [if_pos (by omega)]; omega)
      have w1 : IntKind.i32.wrap ((x : Int) - 65) = (x : Int) - 65 := by rw [IntWalk.i32_in _ (by omega)]
      have w2 : IntKind.i32.wrap ((x : Int) - 65 + 97) = (x : Int) - 65 + 97 := by rw [IntWalk.i32_in _ (by omega)]
      go_enter Tryz.func181, Tryz.ntmps181
      go_wp2_with fail
      go_ret
      refine ⟨?_, Below.refl _ _⟩
      rw [HE.out]
      rfl
    · have HE := Lib.hid (show lowC x = (x : Int) by unfold lowC; rw [if_neg (by omega)])
      go_enter Tryz.func181, Tryz.ntmps181
      go_wp2_with fail
      go_ret
      refine ⟨?_, Below.refl _ _⟩
      rw [HE.out]
      rfl
  · have HE := Lib.hid (show lowC x = (x : Int) by unfold lowC; rw [if_neg (by omega)])
    go_enter Tryz.func181, Tryz.ntmps181
    go_wp2_with fail
    go_ret
    refine ⟨?_, Below.refl _ _⟩
    rw [HE.out]
    rfl
def SomeS (ks : List ByteArray) (w : World) (e : Ending) (w' : World) : Prop := ∃ v, e = .returned v ∧ Strs w' w.heap.size v ks ∧ Below w.heap.size w w'
set_option maxRecDepth 100000 in
set_option maxHeartbeats 1000000 in
theorem words_calls (s : ByteArray) (w : World) (hs : WordsOk s) (hG : Glob w) :
    Calls Tryz.prog 127 #[.string s] w (SomeS (wordsL s) w) := by
  obtain ⟨h1, h2, h3, h4⟩ := hs
  have cM := Tryz.strings_Map_grows 181 #[] (enters_of Tryz.func181 (by kernel_rfl) rfl) lowC s w (by omega) (fun W x hx _ => low_calls x W hx) (fun x hx => by unfold lowC; split <;> omega) hG.1
  have CM := Lib.hid cM
  have HL := Lib.hid (show lowS s = ⟨(Lib.mapD lowC s.data.toList).toArray⟩ from rfl)
  have HG := Lib.hid hG
  clear cM hG
  go_enter Tryz.func127, Tryz.ntmps127
  go_wp2_with fail
  refine CM.out.mono ?_
  rintro e w1 ⟨rfl, hb1⟩
  rw [← HL.out]
  have hG1 := HG.out.below hb1
  obtain ⟨m, hm⟩ := hG1.2
  have HM := Lib.hid hm
  clear hm hG1
  go_wp2_with fail
  refine (Tryz.strings_Split (lowS s) ⟨#[32]⟩ m w1 (by omega) HM.out (by decide)).mono ?_
  rintro e w2 ⟨rfl, h⟩
  have hst := strs_new w1 (wordsL s) h4
  have hbb := below_step hb1 (below_alloc w1 (.cells ((wordsL s).map Value.string).toArray 9))
  rw [show w1.alloc (.cells ((wordsL s).map Value.string).toArray 9) = w2 from h.symm, h3] at hst
  rw [show w1.alloc (.cells ((wordsL s).map Value.string).toArray 9) = w2 from h.symm] at hbb
  have HST := Lib.hid hst
  have HB := Lib.hid hb1.size
  clear hst h hb1
  go_wp2_with fail
  go_ret
  refine ⟨_, rfl, ?_, hbb⟩
  exact Strs.mono HST.out HB.out

def begunN (ks : List ByteArray) (b : ByteArray) : Nat := (ks.filter fun k => Lib.hasPrefix k.data.toList b.data.toList).length
theorem begunN_snoc {ks : List ByteArray} {b : ByteArray} {k : Nat} {s : ByteArray} (hk : ks[k]? = some s) : begunN (ks.take (k + 1)) b = begunN (ks.take k) b + if Lib.hasPrefix s.data.toList b.data.toList then 1 else 0 := by
  have hlt : k < ks.length := (List.getElem?_eq_some_iff.1 hk).1
  have e : ks.take (k + 1) = ks.take k ++ [s] := by
    rw [List.take_succ_eq_append_getElem hlt, (List.getElem?_eq_some_iff.1 hk).2]
  unfold begunN
  rw [e, List.filter_append, List.length_append]
  cases hf : Lib.hasPrefix s.data.toList b.data.toList <;> simp [hf]
theorem begunN_le (ks : List ByteArray) (b : ByteArray) : begunN ks b ≤ ks.length := List.length_filter_le _ _
set_option maxRecDepth 100000 in
set_option maxHeartbeats 1000000 in
theorem begun_calls (lo : Nat) (b : ByteArray) (v : Value) (ks : List ByteArray) (w : World) (hv : Strs w lo v ks) (hn : ks.length ≤ 1000000) :
    Calls Tryz.prog 184 #[v, .string b] w fun e w' => e = .returned (.int .i64 (begunN ks b : Int)) ∧ w = w' := by
  rcases strs_at hv with ⟨rfl, rfl⟩ | ⟨g, off, cap, rfl, hlo, hg, hn', hcell⟩
  · clear hv
    go_enter Tryz.func184, Tryz.ntmps184
    go_wp2
    refine wp_loop_rounds 1 ?_
    rw [rounds_succ]
    go_wp2
    go_ret
    exact ⟨rfl, rfl⟩
  · have Hc := Lib.hid hcell
    clear hcell hv
    go_enter Tryz.func184, Tryz.ntmps184
    go_wp2_with fail
    go_loop [5, 10] (fun c i => ∃ k : Nat, k ≤ ks.length ∧ i = .int .i64 k ∧ c = .int .i64 (begunN (ks.take k) b : Int)) (fun _ i => ks.length - (intOf i).toNat)
    case atStart => exact ⟨0, Nat.zero_le _, rfl, rfl⟩
    case round =>
      obtain ⟨k, hk, rfl, rfl⟩ := hrel
      by_cases hlt : k < ks.length
      · obtain ⟨s, hs⟩ : ∃ s, ks[k]? = some s := ⟨ks[k], List.getElem?_eq_getElem hlt⟩
        have hcs := Hc.out k s hs
        have Hn := Lib.hid (begunN_snoc (b := b) hs)
        have hle := begunN_le (ks.take k) b
        have hle2 : begunN (ks.take k) b ≤ k := Nat.le_trans hle (List.length_take_le k ks)
        clear hs hle
        generalize begunN (ks.take k) b = c at *
        cases hp : Lib.hasPrefix s.data.toList b.data.toList
        · have Hp := Lib.hid hp
          have Hn' := Lib.hid (show begunN (ks.take (k + 1)) b = c by rw [Hn.out, hp]; rfl)
          clear hp
          go_wp2_with fail
          refine (Tryz.strings_HasPrefix s b w).mono ?_
          rintro e w' ⟨rfl, h⟩
          subst h
          rw [Hp.out]
          go_wp2_with fail
          go_round
          case rel => exact ⟨k + 1, by omega, by go_num, by rw [Hn'.out]⟩
          case measure => simp [intOf]; omega
        · have Hp := Lib.hid hp
          have Hn' := Lib.hid (show begunN (ks.take (k + 1)) b = c + 1 by rw [Hn.out, hp]; rfl)
          clear hp
          go_wp2_with fail
          refine (Tryz.strings_HasPrefix s b w).mono ?_
          rintro e w' ⟨rfl, h⟩
          subst h
          rw [Hp.out]
          go_wp2_with fail
          go_round
          case rel => exact ⟨k + 1, by omega, by go_num, by rw [Hn'.out]; go_num⟩
          case measure => simp [intOf]; omega
      · obtain rfl : k = ks.length := by omega
        go_wp2_with fail
        go_ret
        exact ⟨rfl, rfl⟩

def lackB (wanted name : List ByteArray) (b : ByteArray) : Bool := decide (begunN name b < begunN wanted b)
def fitsB (wanted name : List ByteArray) : Bool := !(wanted.any (lackB wanted name))
set_option maxRecDepth 100000 in
set_option maxHeartbeats 2000000 in
theorem fits1_calls (cn cw lo lo' : Nat) (b : ByteArray) (vn vw : Value) (wanted name : List ByteArray) (w : World) (hw : Strs w lo vw wanted) (hn : Strs w lo' vn name) (hwn : wanted.length ≤ 1000000) (hnn : name.length ≤ 1000000)
    (h1 : w.cell? ⟨cn, 0, none⟩ = some vn) (h2 : w.cell? ⟨cw, 0, none⟩ = some vw) :
    Calls Tryz.prog 183 #[.string b, .pointer (some ⟨cn, 0, none⟩), .pointer (some ⟨cw, 0, none⟩)] w (BoolIs (lackB wanted name b) w) := by
  obtain ⟨na, nc, rfl⟩ := strs_shape' hn
  obtain ⟨wa, wc, rfl⟩ := strs_shape' hw
  have HS := Lib.hid (show ∀ w', Below w.heap.size w w' → (Below w.heap.size w w' ∧ Strs w' lo (.slice wa wanted.length wc) wanted ∧ Strs w' lo' (.slice na name.length nc) name ∧ w'.cell? ⟨cn, 0, none⟩ = some (.slice na name.length nc) ∧ w'.cell? ⟨cw, 0, none⟩ = some (.slice wa wanted.length wc)) from fun w' hb => ⟨hb, hw.below hb, hn.below hb, below_cell hb h1, below_cell hb h2⟩)
  have hb0 := (Below.refl w.heap.size w).drew
  clear hw hn h1 h2
  go_enter Tryz.func183, Tryz.ntmps183
  go_upto_region 1 with fail
  refine wp_region_held_drew (S := fun w' => Below w.heap.size w w' ∧ Strs w' lo (.slice wa wanted.length wc) wanted ∧ Strs w' lo' (.slice na name.length nc) name ∧ w'.cell? ⟨cn, 0, none⟩ = some (.slice na name.length nc) ∧ w'.cell? ⟨cw, 0, none⟩ = some (.slice wa wanted.length wc)) (by kernel_rfl) ?_ (fun hHeld => ?_)
  · (exact HS.out _ (by first | assumption | exact hHeld.1 | exact below_step hHeld.1 (by assumption) | exact below_step hHeld.1 (below_alloc _ _)))
  refine take_at 0 5 (v := ?_) rfl rfl (by kernel_rfl) (by kernel_rfl) (by kernel_rfl) (fun _ _ _ h => h) (by rfl) ?y0 (by assumption) ?r0
  case y0 =>
    intro w hSw
    try dsimp only at hSw
    go_simp
    try with_reducible rfl
  simp only [List.set_cons_zero, List.set_cons_succ]
  refine take_at 1 6 (v := ?_) rfl rfl (by kernel_rfl) (by kernel_rfl) (by kernel_rfl) (fun _ _ _ h => h) (by rfl) ?y1 (by assumption) ?r1
  case y1 =>
    intro w hSw
    try dsimp only at hSw
    go_simp
    try with_reducible rfl
  simp only [List.set_cons_zero, List.set_cons_succ]
  refine take_at 3 8 (v := ?_) rfl rfl (by kernel_rfl) (by kernel_rfl) (by kernel_rfl) (fun _ _ _ h => h) (by rfl) ?y3 (by assumption) ?r3
  case y3 =>
    intro w hSw
    try dsimp only at hSw
    go_simp
    try with_reducible rfl
  simp only [List.set_cons_zero, List.set_cons_succ]
  refine take_at 4 9 (v := ?_) rfl rfl (by kernel_rfl) (by kernel_rfl) (by kernel_rfl) (fun _ _ _ h => h) (by rfl) ?y4 (by assumption) ?r4
  case y4 =>
    intro w hSw
    try dsimp only at hSw
    go_simp
    try with_reducible rfl
  simp only [List.set_cons_zero, List.set_cons_succ]
  refine run_at 2 rfl (by kernel_rfl) (by rfl) (fun K hK => ?_)
  go_simp
  refine (begun_calls lo' b _ name _ (by exact hHeld.2.2.1) hnn).mono ?_
  rintro e w' ⟨rfl, rfl⟩
  go_wp2_with fail
  refine hK.out _ _ ?_ (fun hHeld => ?_)
  · (exact HS.out _ (by first | assumption | exact hHeld.1 | exact below_step hHeld.1 (by assumption) | exact below_step hHeld.1 (below_alloc _ _)))
  clear hK K
  try simp only [Act.put, List.setIfInBounds_toArray, List.set_cons_zero, List.set_cons_succ]
  refine run_at 5 rfl (by kernel_rfl) (by rfl) (fun K hK => ?_)
  go_simp
  refine (begun_calls lo b _ wanted _ (by exact hHeld.2.1) hwn).mono ?_
  rintro e w' ⟨rfl, rfl⟩
  go_wp2_with fail
  refine hK.out _ _ ?_ (fun hHeld => ?_)
  · (exact HS.out _ (by first | assumption | exact hHeld.1 | exact below_step hHeld.1 (by assumption) | exact below_step hHeld.1 (below_alloc _ _)))
  clear hK K
  try simp only [Act.put, List.setIfInBounds_toArray, List.set_cons_zero, List.set_cons_succ]
  refine take_at 6 11 (v := ?_) rfl rfl (by kernel_rfl) (by kernel_rfl) (by kernel_rfl) (fun _ _ _ h => h) (by rfl) ?y6 (by assumption) ?r6
  case y6 =>
    intro w hSw
    try dsimp only at hSw
    go_simp
    try with_reducible rfl
  simp only [List.set_cons_zero, List.set_cons_succ]
  refine take_at 7 4 (v := ?_) rfl rfl (by kernel_rfl) (by kernel_rfl) (by kernel_rfl) (fun _ _ _ h => h) (by rfl) ?y7 (by assumption) ?r7
  case y7 =>
    intro w hSw
    try dsimp only at hSw
    go_simp
    try with_reducible rfl
  simp only [List.set_cons_zero, List.set_cons_succ]
  refine wpAnyH_done (by kernel_rfl) ?_ _
  go_wp2_with fail
  go_ret
  exact ⟨rfl, hHeld.1⟩

set_option maxRecDepth 100000 in
set_option maxHeartbeats 1000000 in
theorem indexS_calls (g : Nat) (caps : Array Value) (eg : ∀ args w, (callFunc g args).run Tryz.prog w = .ok (.enter g args) w) (f : ByteArray → Bool) (lo : Nat) (v : Value) (ks : List ByteArray) (w : World) (hv : Strs w lo v ks)
    (hf : ∀ (W : World) (i : Nat) (s : ByteArray), ks[i]? = some s → Below w.heap.size w W → Calls Tryz.prog g (#[.string s] ++ caps) W (BoolIs (f s) W)) :
    Calls Tryz.prog 172 #[v, .func (.func g) #[] caps] w fun e w' => ∃ r : Int, e = .returned (.int .i64 r) ∧ decide (0 ≤ r) = ks.any f ∧ Below w.heap.size w w' := by
  have Hf := Lib.hid hf
  clear hf
  rcases strs_at hv with ⟨rfl, rfl⟩ | ⟨gg, off, cap, rfl, hlo, hg, hn', hcell⟩
  · clear hv
    go_enter Tryz.func172, Tryz.ntmps172
    go_wp2
    refine wp_loop_rounds 1 ?_
    rw [rounds_succ]
    go_wp2
    go_ret
    exact ⟨-1, rfl, rfl, Below.refl _ _⟩
  · have Hc := Lib.hid hcell
    clear hcell hv
    go_enter Tryz.func172, Tryz.ntmps172
    go_wp2_with fail
    go_loopw [8] (fun i wr => ∃ k : Nat, k ≤ ks.length ∧ i = .int .i64 k ∧ Below w.heap.size w wr ∧ Hid (∀ (i : Nat) (s : ByteArray), i < k → ks[i]? = some s → f s = false)) (fun i _ => ks.length - (intOf i).toNat)
    case atStart => exact ⟨0, Nat.zero_le _, rfl, Below.refl _ _, Lib.hid fun _ _ h => by omega⟩
    case round =>
      obtain ⟨k, hk, rfl, hb, H0⟩ := hrel
      by_cases hlt : k < ks.length
      · obtain ⟨s, hs⟩ : ∃ s, ks[k]? = some s := ⟨ks[k], List.getElem?_eq_getElem hlt⟩
        have hcs := below_cell hb (Hc.out k s hs)
        have Hs := Lib.hid hs
        have HB := Lib.hid hb
        clear hs
        cases hq : f s
        · have Hq := Lib.hid hq
          clear hq
          go_wp2_with fail
          refine (Hf.out _ k s Hs.out HB.out).mono ?_
          rintro e w' ⟨rfl, hb'⟩
          rw [Hq.out]
          go_wp2_with fail
          go_roundw
          case rel => exact ⟨k + 1, by omega, by go_num, below_step HB.out hb', Lib.hid fun i q hi hqi => by
            rcases Nat.lt_succ_iff_lt_or_eq.1 hi with h | rfl
            · exact H0.out i q h hqi
            · rw [Hs.out] at hqi; cases hqi; exact Hq.out⟩
          case measure => simp [intOf]; omega
        · have Hq := Lib.hid hq
          clear hq
          go_wp2_with fail
          refine (Hf.out _ k s Hs.out HB.out).mono ?_
          rintro e w' ⟨rfl, hb'⟩
          rw [Hq.out]
          go_wp2_with fail
          go_ret
          refine ⟨k, rfl, ?_, below_step HB.out hb'⟩
          rw [decide_eq_true (by omega)]
          exact (List.any_eq_true.2 ⟨s, List.mem_of_getElem? Hs.out, Hq.out⟩).symm
      · obtain rfl : k = ks.length := by omega
        go_wp2_with fail
        go_ret
        refine ⟨-1, rfl, ?_, hb⟩
        have : ks.any f = false := by
          rw [List.any_eq_false]
          intro s hs
          obtain ⟨i, hi⟩ := List.getElem?_of_mem hs
          rw [H0.out i s (List.getElem?_eq_some_iff.1 hi).1 hi]
          simp
        rw [this]; rfl
set_option maxRecDepth 100000 in
set_option maxHeartbeats 1000000 in
theorem containsS_calls (g : Nat) (caps : Array Value) (eg : ∀ args w, (callFunc g args).run Tryz.prog w = .ok (.enter g args) w) (f : ByteArray → Bool) (lo : Nat) (v : Value) (ks : List ByteArray) (w : World) (hv : Strs w lo v ks)
    (hf : ∀ (W : World) (i : Nat) (s : ByteArray), ks[i]? = some s → Below w.heap.size w W → Calls Tryz.prog g (#[.string s] ++ caps) W (BoolIs (f s) W)) :
    Calls Tryz.prog 182 #[v, .func (.func g) #[] caps] w (BoolIs (ks.any f) w) := by
  have C := Lib.hid (indexS_calls g caps eg f lo v ks w hv hf)
  clear hf hv
  go_enter Tryz.func182, Tryz.ntmps182
  go_wp2_with fail
  refine C.out.mono ?_
  rintro e w' ⟨r, rfl, hr, hb⟩
  have Hr := Lib.hid hr
  clear hr
  go_wp2_with fail
  go_ret
  exact ⟨by rw [← Hr.out]; rfl, hb⟩

set_option maxRecDepth 100000 in
set_option maxHeartbeats 2000000 in
theorem fits_calls (lo lo' : Nat) (vn vw : Value) (wanted name : List ByteArray) (w : World) (hw : Strs w lo vw wanted) (hn : Strs w lo' vn name) (hwn : wanted.length ≤ 1000000) (hnn : name.length ≤ 1000000) :
    Calls Tryz.prog 129 #[vw, vn] w (BoolIs (fitsB wanted name) w) := by
  obtain ⟨na, nc, rfl⟩ := strs_shape' hn
  obtain ⟨wa, wc, rfl⟩ := strs_shape' hw
  obtain ⟨W, hW⟩ : ∃ W, W = (w.alloc (.cells #[.slice wa wanted.length wc] 35)).alloc (.cells #[.slice na name.length nc] 35) := ⟨_, rfl⟩
  have hwW : Below w.heap.size w W := by rw [hW]; exact below2 w _ _
  have x0 : W.cell? ⟨w.heap.size, 0, none⟩ = some (.slice wa wanted.length wc) := by rw [hW, World.cell?_alloc_past _ _ _ (by simp), World.cell?_alloc_at _ _ _ _ rfl]; rfl
  have x1 : W.cell? ⟨w.heap.size + 1, 0, none⟩ = some (.slice na name.length nc) := by rw [hW, World.cell?_alloc_at _ _ _ _ (by simp)]; rfl
  have HS := Lib.hid (show ∀ w', Below W.heap.size W w' → (Below W.heap.size W w' ∧ w'.cell? ⟨w.heap.size, 0, none⟩ = some (.slice wa wanted.length wc) ∧ w'.cell? ⟨w.heap.size + 1, 0, none⟩ = some (.slice na name.length nc)) from fun w' hb => ⟨hb, below_cell hb x0, below_cell hb x1⟩)
  have hb0 := (Below.refl W.heap.size W).drew
  have hwW1 := hw.below hwW
  have hnW1 := hn.below hwW
  have HA := Lib.hid (show ∀ w', Below W.heap.size W w' → Strs w' lo (.slice wa wanted.length wc) wanted ∧ Strs w' lo' (.slice na name.length nc) name ∧ w'.cell? ⟨w.heap.size, 0, none⟩ = some (.slice wa wanted.length wc) ∧ w'.cell? ⟨w.heap.size + 1, 0, none⟩ = some (.slice na name.length nc) from fun w' hb => ⟨hwW1.below hb, hnW1.below hb, below_cell hb x0, below_cell hb x1⟩)
  have HN := Lib.hid (And.intro hwn hnn)
  clear hw hn x1 hwW1 hnW1
  go_enter Tryz.func129, Tryz.ntmps129
  go_upto_region 1 with fail
  try rw [← hW]
  clear hW
  go_wp2_with fail
  refine (containsS_calls 183 _ (enters_of Tryz.func183 (by kernel_rfl) rfl) (lackB wanted name) lo _ wanted W (HA.out W (Below.refl _ _)).1 (fun W' i s hi hb' => ?s1)).mono ?_
  case s1 =>
    obtain ⟨a1, a2, a3, a4⟩ := HA.out W' hb'
    exact fits1_calls _ _ lo lo' s _ _ wanted name W' a1 a2 HN.out.1 HN.out.2 a4 a3
  rintro e w1 ⟨rfl, hb1⟩
  go_wp2_with fail
  go_ret
  exact ⟨rfl, below_step hwW hb1⟩
end Go.Proofs.YtmjkbmkjnbpgeaaGreatDoor
namespace Go.Proofs.YtmjkbmkjnbpgeaaGreatDoor
open Go.RowKit

set_option maxRecDepth 100000 in
set_option maxHeartbeats 2000000 in
theorem findF1_calls (ct lo : Nat) (k name : ByteArray) (x vw : Value) (wanted : List ByteArray) (w : World) (hw : Strs w lo vw wanted) (hwn : wanted.length ≤ 1000000) (hG : Glob w) (hn : WordsOk name)
    (h1 : w.cell? ⟨ct, 0, none⟩ = some vw) :
    Calls Tryz.prog 128 #[.agg #[.string k, .string name, x], .pointer (some ⟨ct, 0, none⟩)] w (BoolIs (fitsB wanted (wordsL name)) w) := by
  obtain ⟨wa, wc, rfl⟩ := strs_shape' hw
  obtain ⟨W, hW⟩ : ∃ W, W = w.alloc (.cells #[.string k, .string name, x] 86) := ⟨_, rfl⟩
  have hwW : Below w.heap.size w W := by rw [hW]; exact below_alloc w _
  have x1 : W.cell? ⟨w.heap.size, 1, none⟩ = some (.string name) := by rw [hW, World.cell?_alloc_at _ _ _ _ rfl]; rfl
  have c1 := below_cell hwW h1
  have hwS := hw.below hwW
  have hGW := hG.below hwW
  have HS := Lib.hid (show ∀ w', Below W.heap.size W w' → (Below W.heap.size W w' ∧ Strs w' lo (.slice wa wanted.length wc) wanted ∧ Glob w' ∧ w'.cell? ⟨w.heap.size, 1, none⟩ = some (.string name) ∧ w'.cell? ⟨ct, 0, none⟩ = some (.slice wa wanted.length wc)) from fun w' hb => ⟨hb, hwS.below hb, hGW.below hb, below_cell hb x1, below_cell hb c1⟩)
  have hb0 := (Below.refl W.heap.size W).drew
  have HN := Lib.hid hn
  clear hw hG x1 c1 hwS hGW h1 hn
  go_enter Tryz.func128, Tryz.ntmps128
  go_upto_region 1 with fail
  rw [← hW]
  clear hW
  refine wp_region_held_drew (S := fun w' => Below W.heap.size W w' ∧ Strs w' lo (.slice wa wanted.length wc) wanted ∧ Glob w' ∧ w'.cell? ⟨w.heap.size, 1, none⟩ = some (.string name) ∧ w'.cell? ⟨ct, 0, none⟩ = some (.slice wa wanted.length wc)) (by kernel_rfl) ?_ (fun hHeld => ?_)
  · (exact HS.out _ (by first | assumption | exact hHeld.1 | exact below_step hHeld.1 (by assumption) | exact below_step hHeld.1 (below_alloc _ _)))
  refine take_at 0 4 (v := ?_) rfl rfl (by kernel_rfl) (by kernel_rfl) (by kernel_rfl) (fun _ _ _ h => h) (by rfl) ?y0 (by assumption) ?r0
  case y0 =>
    intro w hSw
    try dsimp only at hSw
    go_simp
    try with_reducible rfl
  simp only [List.set_cons_zero, List.set_cons_succ]
  refine take_at 1 5 (v := ?_) rfl rfl (by kernel_rfl) (by kernel_rfl) (by kernel_rfl) (fun _ _ _ h => h) (by rfl) ?y1 (by assumption) ?r1
  case y1 =>
    intro w hSw
    try dsimp only at hSw
    go_simp
    try with_reducible rfl
  simp only [List.set_cons_zero, List.set_cons_succ]
  refine take_at 2 6 (v := ?_) rfl rfl (by kernel_rfl) (by kernel_rfl) (by kernel_rfl) (fun _ _ _ h => h) (by rfl) ?y2 (by assumption) ?r2
  case y2 =>
    intro w hSw
    try dsimp only at hSw
    go_simp
    try with_reducible rfl
  simp only [List.set_cons_zero, List.set_cons_succ]
  refine run_at 3 rfl (by kernel_rfl) (by rfl) (fun K hK => ?_)
  go_simp
  refine (words_calls name _ HN.out (by exact hHeld.2.2.1)).mono ?_
  rintro e w' ⟨vn, rfl, hvn, hb⟩
  have hlen := HN.out.2.2.2
  go_wp2_with fail
  refine hK.out _ _ ?_ (fun hHeld => ?_)
  · (exact HS.out _ (by first | assumption | exact hHeld.1 | exact below_step hHeld.1 (by assumption) | exact below_step hHeld.1 (below_alloc _ _)))
  clear hK K
  try simp only [Act.put, List.setIfInBounds_toArray, List.set_cons_zero, List.set_cons_succ]
  refine run_at 4 rfl (by kernel_rfl) (by rfl) (fun K hK => ?_)
  go_simp
  refine (fits_calls lo _ _ _ wanted (wordsL name) _ (by exact hHeld.2.1) (by exact hvn) hwn hlen).mono ?_
  rintro e w' ⟨rfl, hb⟩
  go_wp2_with fail
  refine hK.out _ _ ?_ (fun hHeld => ?_)
  · (exact HS.out _ (by first | assumption | exact hHeld.1 | exact below_step hHeld.1 (by assumption) | exact below_step hHeld.1 (below_alloc _ _)))
  clear hK K
  try simp only [Act.put, List.setIfInBounds_toArray, List.set_cons_zero, List.set_cons_succ]
  refine take_at 5 3 (v := ?_) rfl rfl (by kernel_rfl) (by kernel_rfl) (by kernel_rfl) (fun _ _ _ h => h) (by rfl) ?y5 (by assumption) ?r5
  case y5 =>
    intro w hSw
    try dsimp only at hSw
    go_simp
    try with_reducible rfl
  simp only [List.set_cons_zero, List.set_cons_succ]
  refine wpAnyH_done (by kernel_rfl) ?_ _
  go_wp2_with fail
  go_ret
  exact ⟨rfl, below_step hwW hHeld.1⟩

def findE (ps : List PD) (q : ByteArray) : Int := firstE [chkPs ps, unlessE (titleB q) 3]
def findR (ps : List PD) (q : ByteArray) : List ByteArray := if findE ps q = 0 then thoseL (fun p => fitsB (wordsL q) (wordsL p.name)) ps else []
set_option maxRecDepth 100000 in
set_option maxHeartbeats 2000000 in
theorem findL_calls (lo : Nat) (v : Value) (ps : List PD) (q : ByteArray) (w : World) (hp : Plays w lo v ps) (hs : ∀ p ∈ ps, SmallP p ∧ WordsOk p.name) (hn : ps.length ≤ 1000000) (hG : Glob w) (hq : WordsOk q) :
    Calls Tryz.prog 58 #[v, .string q] w (MadeSE (findR ps q) (findE ps q) w) := by
  obtain ⟨pa, pc, rfl⟩ := plays_shape hp
  have HE := Lib.hid (show findE ps q = firstE [chkPs ps, unlessE (titleB q) 3] from rfl)
  have HR := Lib.hid (show findR ps q = if findE ps q = 0 then thoseL (fun p => fitsB (wordsL q) (wordsL p.name)) ps else [] from rfl)
  generalize findE ps q = E at HE HR ⊢
  generalize findR ps q = R at HR ⊢
  have HP := Lib.hid hp
  have HG := Lib.hid hG
  have HQ := Lib.hid hq
  have HSm := Lib.hid hs
  clear hp hG hq hs
  go_enter Tryz.func58, Tryz.ntmps58
  go_wp2_with fail
  refine (checkPlayers_calls lo _ ps w HP.out (fun p h => (HSm.out p h).1) hn HG.out).mono ?_
  rintro e w1 ⟨rfl, hb1⟩
  go_wp2_with fail
  refine (title_calls q w1 HQ.out.1 (HG.out.below hb1)).mono ?_
  rintro e w2 ⟨rfl, hb2⟩
  go_wp2_with fail
  refine (unless_calls _ _ _).mono ?_
  rintro e w' ⟨rfl, rfl⟩
  have hb12 := below_step hb1 hb2
  clear hb1 hb2
  go_wp2_with fail
  refine (orE_calls _ 0 2 [chkPs ps, unlessE (titleB q) 3] _ (by simp) (by exact nums2 _ _ _ _)).mono ?_
  rintro e w3 ⟨rfl, hw3⟩
  rw [← HE.out]
  have hb3 := below_step hb12 (below_alloc w2 (.cells #[.int .i64 (chkPs ps), .int .i64 (unlessE (titleB q) 3)] 32))
  rw [hw3] at hb3
  clear hw3 hb12
  by_cases hz : E = 0
  · have e1 : (E != 0) = false := by simp [hz]
    have Hz := Lib.hid hz
    clear hz
    go_wp2_with fail
    refine (words_calls q w3 HQ.out (HG.out.below hb3)).mono ?_
    rintro e w4 ⟨vw, rfl, hvw, hb4⟩
    obtain ⟨wa, wc, rfl⟩ := strs_shape' hvw
    have hbw4 := below_step hb3 hb4
    have HX := Lib.hid (show ∀ W', Below (w4.alloc (.cells #[.slice wa (wordsL q).length wc] 35)).heap.size (w4.alloc (.cells #[.slice wa (wordsL q).length wc] 35)) W' → Strs W' w3.heap.size (.slice wa (wordsL q).length wc) (wordsL q) ∧ Glob W' ∧ W'.cell? ⟨w4.heap.size, 0, none⟩ = some (.slice wa (wordsL q).length wc) from fun W' hb =>
      ⟨(hvw.below (below_alloc w4 _)).below hb, ((HG.out.below hbw4).below (below_alloc w4 _)).below hb, below_cell hb (by rw [World.cell?_alloc_at _ _ _ _ rfl]; rfl)⟩)
    have HP4 := Lib.hid ((HP.out.below hbw4).below (below_alloc w4 (.cells #[.slice wa (wordsL q).length wc] 35)))
    have hbo := below_step hbw4 (below_alloc w4 (.cells #[.slice wa (wordsL q).length wc] 35))
    clear hvw hb3 hb4 hbw4
    go_wp2_with fail
    refine (those_calls 128 #[.pointer (some ⟨w4.heap.size, 0, none⟩)] (enters_of Tryz.func128 (by kernel_rfl) rfl) (fun p => fitsB (wordsL q) (wordsL p.name)) lo _ ps _ HP4.out (fun W' i p x hi hb' hx => ?s1)).mono ?_
    case s1 =>
      obtain ⟨a1, a2, a3⟩ := HX.out W' hb'
      exact findF1_calls _ _ p.key p.name x _ (wordsL q) W' a1 HQ.out.2.2.2 a2 (HSm.out p (List.mem_of_getElem? hi)).2 a3
    rintro e w5 ⟨v5, ho, rfl, hb5⟩
    go_wp2_with fail
    go_ret2
    refine ⟨v5, ?_, ?_, below_step hbo hb5⟩
    · rw [HR.out, if_pos Hz.out]; exact owns_mono ho hbo.size
    · rw [Hz.out]; rfl
  · have e1 : (E != 0) = true := by simp [hz]
    have Hz := Lib.hid hz
    clear hz
    go_wp2_with fail
    go_ret2
    refine ⟨.slice none 0 0, ?_, rfl, hb3⟩
    rw [HR.out, if_neg Hz.out]
    exact World.ownsRow_nil _ _ _ _
end Go.Proofs.YtmjkbmkjnbpgeaaGreatDoor
namespace Go.Proofs.YtmjkbmkjnbpgeaaGreatDoor
open Go.RowKit
instance (s : ByteArray) : Decidable (NameOk s) := inferInstanceAs (Decidable (_ ∧ _ ∧ _))
instance (s : ByteArray) : Decidable (WordsOk s) := inferInstanceAs (Decidable (_ ∧ _ ∧ _ ∧ _))
def namesAll : List ByteArray := sixNames ++ badNames
theorem names_ok : ∀ s ∈ namesAll, NameOk s := by decide +kernel
theorem words_ok : ∀ s ∈ namesAll, WordsOk s := by decide +kernel
theorem names_small : ∀ s ∈ namesAll, s.size ≤ 1000 := by decide +kernel
def Q0 : ByteArray := ⟨#[109, 32, 109, 97]⟩
def N0 : ByteArray := ⟨#[77, 97, 120, 32, 77, 97, 114, 116, 105, 110]⟩
def P0 : List PD := [⟨⟨#[97]⟩, N0, [⟨#[100, 102]⟩]⟩]
theorem q0_ok : WordsOk Q0 ∧ WordsOk N0 := by decide +kernel
theorem p0_e : findE P0 Q0 = 0 := by decide +kernel
theorem p0_r : findR P0 Q0 = [⟨#[97]⟩] := by decide +kernel
end Go.Proofs.YtmjkbmkjnbpgeaaGreatDoor
namespace Go.Proofs.YtmjkbmkjnbpgeaaGreatDoor
open Go.RowKit

theorem firstE_all {xs : List Int} (h : firstE xs = 0) : ∀ x ∈ xs, x = 0 := by
  induction xs with
  | nil => intro x hx; cases hx
  | cons y ys ih =>
    rw [firstE] at h
    intro x hx
    by_cases hy : y = 0
    · rw [if_pos hy] at h
      rcases List.mem_cons.1 hx with rfl | hx
      · exact hy
      · exact ih h x hx
    · rw [if_neg hy] at h; exact absurd h hy
theorem errsTo_all {f : Nat → Int} {n : Nat} (h : errsTo f n = 0) : ∀ i, i < n → f i = 0 := fun i hi =>
  firstE_all h _ (List.mem_map.2 ⟨i, List.mem_range.2 hi, rfl⟩)
theorem eachE_all {n : Nat} {most : Int} {f : Nat → Int} (h : eachE n most f = 0) : ∀ i, i < n → f i = 0 := by
  unfold eachE at h
  split at h
  · cases h
  · exact errsTo_all (by simpa using h)
theorem errsTo_congr {f g : Nat → Int} {n : Nat} (h : ∀ i, i < n → f i = g i) : errsTo f n = errsTo g n := by
  unfold errsTo
  congr 1
  exact List.map_congr_left fun i hi => h i (List.mem_range.1 hi)
theorem eachE_congr {n : Nat} {most : Int} {f g : Nat → Int} (h : ∀ i, i < n → f i = g i) : eachE n most f = eachE n most g := by
  unfold eachE
  split
  · rfl
  · exact errsTo_congr (by simpa using h)

theorem plF_rise {ps : List PD} {i : Nat} (h : plF ps i = 0) (hi : i ≠ 0) : ltS (plAt ps (i - 1)).key (plAt ps i).key = true := by
  have := firstE_all h (unlessE (decide (i = 0) || ltS (plAt ps (i - 1)).key (plAt ps i).key) 7) (by simp)
  rw [decide_eq_false hi, Bool.false_or] at this
  cases hl : ltS (plAt ps (i - 1)).key (plAt ps i).key
  · rw [hl] at this; cases this
  · rfl
theorem keyAt_plAt (ps : List PD) (i : Nat) (hi : i < ps.length) : keyAt ps i = (plAt ps i).key := by
  rw [keyAt_some (List.getElem?_eq_getElem hi), plAt_some (List.getElem?_eq_getElem hi)]
theorem sorted_of {ps : List PD} (h : chkPs ps = 0) : SortedP ps := by
  have h0 := eachE_all h
  intro i j hij
  induction j with
  | zero => omega
  | succ j ih =>
    intro hj
    have hs : ltS (keyAt ps j) (keyAt ps (j + 1)) = true := by
      rw [keyAt_plAt _ _ (by omega), keyAt_plAt _ _ hj]
      exact plF_rise (h0 (j + 1) hj) (by omega)
    rcases Nat.lt_or_eq_of_le (Nat.lt_succ_iff.1 hij) with h1 | rfl
    · exact ltS_trans (ih h1 (by omega)) hs
    · exact hs
theorem known_hasP {ps : List PD} (h : chkPs ps = 0) (who : ByteArray) : knownB ps who = hasP ps who := known_eq (sorted_of h) who
theorem stF_stH {ps : List PD} (ss : List SD) (h : chkPs ps = 0) (i : Nat) : stF ps ss i = stH ps ss i := by
  unfold stF stH; rw [known_hasP h]
/-- The reference finds what the program finds in players and stints. -/
theorem chkSt_eq (ps : List PD) (ss : List SD) : chkSt ps ss = firstE [chkPs ps, refSt ps ss] := by
  unfold chkSt refSt
  by_cases h : chkPs ps = 0
  · rw [eachE_congr fun i _ => stF_stH ss h i]
  · simp only [firstE]; rw [if_neg h, if_neg h]
theorem chkSt_players {ps : List PD} {ss : List SD} (h : chkSt ps ss = 0) : chkPs ps = 0 := firstE_all h _ (by simp)
theorem clubE_eq (ps : List PD) (ss : List SD) (who : ByteArray) (week : Int) : clubE ps ss who week = firstE [firstE [chkPs ps, refSt ps ss], unlessE (hasP ps who) 8, unlessE (betwB week 1 60) 1] := by
  unfold clubE
  rw [← chkSt_eq]
  by_cases h : chkSt ps ss = 0
  · rw [known_hasP (chkSt_players h)]
  · simp only [firstE]; rw [if_neg h, if_neg h]
theorem squadE_eq (ps : List PD) (ss : List SD) (club : ByteArray) (week : Int) : squadE ps ss club week = firstE [firstE [chkPs ps, refSt ps ss], unlessE (keyB club) 5, unlessE (betwB week 1 60) 1] := by
  unfold squadE; rw [← chkSt_eq]

/-- Is a stint before another one? -/
def ltD (a b : SD) : Prop := ltS a.player b.player = true ∨ (a.player = b.player ∧ a.week < b.week)
theorem cmpSt_neg (a b : SD) : cmpSt a b < 0 ↔ ltD a b := by
  unfold ltD
  cases h : ltS a.player b.player
  · cases he : beqS b.player a.player
    · constructor
      · intro h'
        cases h2 : ltS b.player a.player
        · have := ltS_or h2 he; rw [h] at this; cases this
        · exact absurd h' (cmpSt_lt h2)
      · rintro (h' | ⟨h', _⟩)
        · cases h'
        · rw [h', beqS_self] at he; cases he
    · rw [cmpSt_wk he]
      exact ⟨fun h' => .inr ⟨(beqS_iff.1 he).symm, h'⟩, fun h' => h'.elim (fun x => by cases x) (·.2)⟩
  · have h2 : ltS b.player a.player = false := ltS_asymm h
    have he : beqS b.player a.player = false := by
      cases hh : beqS b.player a.player
      · rfl
      · have := beqS_iff.1 hh; rw [this, ltS_irrefl] at h; cases h
    exact ⟨fun _ => .inl rfl, fun _ => cmpSt_gt h2 he⟩
theorem cmpInt_flip (x y : Int) : Lib.compareInt x y = - Lib.compareInt y x := by
  unfold Lib.compareInt
  by_cases h1 : x < y
  · rw [if_pos h1, if_neg (by omega), if_pos (by omega)]
  · by_cases h2 : x > y
    · rw [if_neg h1, if_pos h2, if_pos (by omega)]; rfl
    · rw [if_neg h1, if_neg h2, if_neg (by omega), if_neg (by omega)]; rfl
theorem cmpS_flip (a b : ByteArray) : cmpS a b = - cmpS b a := by
  unfold cmpS
  cases h1 : ltS a b
  · cases he : beqS a b
    · have h2 := ltS_or h1 he
      rw [h2]; rfl
    · have e := beqS_iff.1 he
      subst e
      rw [h1, beqS_self]; rfl
  · rw [ltS_asymm h1]
    have he : beqS b a = false := by
      cases hh : beqS b a
      · rfl
      · have := beqS_iff.1 hh; rw [this, ltS_irrefl] at h1; cases h1
    rw [he]; rfl
theorem cmpSt_flip (a b : SD) : cmpSt a b = - cmpSt b a := by
  unfold cmpSt
  rw [cmpS_flip a.player b.player, cmpInt_flip a.week b.week]
  simp only [firstE]
  by_cases h : cmpS b.player a.player = 0
  · rw [h]
    by_cases h2 : Lib.compareInt b.week a.week = 0
    · rw [h2]; rfl
    · simp [h2]
  · simp [h]
theorem cmpSt_pos (a b : SD) : 0 < cmpSt a b ↔ ltD b a := by
  rw [← cmpSt_neg, cmpSt_flip a b]; omega
theorem ltD_trans {a b c : SD} (h1 : ltD a b) (h2 : ltD b c) : ltD a c := by
  rcases h1 with h1 | ⟨e1, h1⟩
  · rcases h2 with h2 | ⟨e2, h2⟩
    · exact .inl (ltS_trans h1 h2)
    · exact .inl (by rw [← e2]; exact h1)
  · rcases h2 with h2 | ⟨e2, h2⟩
    · exact .inl (by rw [e1]; exact h2)
    · exact .inr ⟨e1.trans e2, by omega⟩
theorem ltD_irrefl (a : SD) : ¬ ltD a a := by
  rintro (h | ⟨_, h⟩)
  · rw [ltS_irrefl] at h; cases h
  · omega
def SortedS (ss : List SD) : Prop := ∀ i j, i < j → j < ss.length → ltD (stAt ss i) (stAt ss j)
theorem stF_rise {ps : List PD} {ss : List SD} {i : Nat} (h : stF ps ss i = 0) (hi : i ≠ 0) : ltD (stAt ss (i - 1)) (stAt ss i) := by
  have := firstE_all h (unlessE (decide (i = 0) || decide (cmpSt (stAt ss (i - 1)) (stAt ss i) < 0)) 7) (by simp)
  rw [decide_eq_false hi, Bool.false_or] at this
  rw [← cmpSt_neg]
  by_cases hl : cmpSt (stAt ss (i - 1)) (stAt ss i) < 0
  · exact hl
  · rw [decide_eq_false hl] at this; cases this
theorem stF_wk {ps : List PD} {ss : List SD} {i : Nat} (h : stF ps ss i = 0) : 1 ≤ (stAt ss i).week ∧ (stAt ss i).week ≤ 60 := by
  have := firstE_all h (unlessE (betwB (stAt ss i).week 1 60) 1) (by simp)
  cases hb : betwB (stAt ss i).week 1 60
  · rw [hb] at this; cases this
  · unfold betwB at hb; simpa using hb
theorem chkSt_each {ps : List PD} {ss : List SD} (h : chkSt ps ss = 0) : ∀ i, i < ss.length → stF ps ss i = 0 :=
  eachE_all (firstE_all h (eachE ss.length 1000 (stF ps ss)) (by simp))
theorem sortedS_of {ps : List PD} {ss : List SD} (h : chkSt ps ss = 0) : SortedS ss := by
  have h0 := chkSt_each h
  intro i j hij
  induction j with
  | zero => omega
  | succ j ih =>
    intro hj
    have hs : ltD (stAt ss j) (stAt ss (j + 1)) := stF_rise (h0 (j + 1) hj) (by omega)
    rcases Nat.lt_or_eq_of_le (Nat.lt_succ_iff.1 hij) with h1 | rfl
    · exact ltD_trans (ih h1 (by omega)) hs
    · exact hs

/-- c is the club of who after n weeks. -/
def Best (ss : List SD) (who : ByteArray) (n : Int) (c : ByteArray) : Prop :=
  (c = ⟨#[]⟩ ∧ ∀ i, i < ss.length → (stAt ss i).player = who → ¬ (stAt ss i).week ≤ n) ∨
  ∃ i, i < ss.length ∧ (stAt ss i).player = who ∧ (stAt ss i).week ≤ n ∧ c = (stAt ss i).club ∧ ∀ j, j < ss.length → (stAt ss j).player = who → (stAt ss j).week ≤ n → (stAt ss j).week ≤ (stAt ss i).week
theorem sorted_one {ss : List SD} (hs : SortedS ss) {i j : Nat} (hi : i < ss.length) (hj : j < ss.length) (hp : (stAt ss i).player = (stAt ss j).player) (hw : (stAt ss i).week = (stAt ss j).week) : i = j := by
  rcases Nat.lt_trichotomy i j with h | h | h
  · rcases hs i j h hj with h' | ⟨_, h'⟩
    · rw [hp, ltS_irrefl] at h'; cases h'
    · omega
  · exact h
  · rcases hs j i h hi with h' | ⟨_, h'⟩
    · rw [hp, ltS_irrefl] at h'; cases h'
    · omega
theorem Best.one {ss : List SD} {who : ByteArray} {n : Int} {c d : ByteArray} (hs : SortedS ss) (h1 : Best ss who n c) (h2 : Best ss who n d) : c = d := by
  rcases h1 with ⟨rfl, h1⟩ | ⟨i, hi, pi, wi, rfl, mi⟩
  · rcases h2 with ⟨rfl, _⟩ | ⟨j, hj, pj, wj, _, _⟩
    · rfl
    · exact absurd wj (h1 j hj pj)
  · rcases h2 with ⟨_, h2⟩ | ⟨j, hj, pj, wj, rfl, mj⟩
    · exact absurd wi (h2 i hi pi)
    · have e := sorted_one hs hi hj (pi.trans pj.symm) (Int.le_antisymm (mj i hi pi wi) (mi j hj pj wj))
      rw [e]

theorem innerC_cases (who : ByteArray) (wk : Int) (c : ByteArray) (ss : List SD) :
    (innerC who wk c ss = c ∧ ∀ s ∈ ss, s.player = who → s.week ≠ wk) ∨ ∃ s ∈ ss, s.player = who ∧ s.week = wk ∧ innerC who wk c ss = s.club := by
  unfold innerC
  induction ss generalizing c with
  | nil => exact .inl ⟨rfl, fun _ h => by cases h⟩
  | cons s ss ih =>
    simp only [List.foldl_cons]
    rcases ih (if beqS s.player who && (s.week == wk) then s.club else c) with ⟨h1, h2⟩ | ⟨t, ht, h⟩
    · rw [h1]
      by_cases hm : beqS s.player who && (s.week == wk)
      · rw [if_pos hm]
        rw [Bool.and_eq_true, beq_iff_eq] at hm
        exact .inr ⟨s, List.mem_cons_self, beqS_iff.1 hm.1, hm.2, rfl⟩
      · rw [if_neg hm]
        refine .inl ⟨rfl, fun t ht => ?_⟩
        rcases List.mem_cons.1 ht with rfl | ht
        · intro hp hw
          apply hm
          rw [hp, hw, beqS_self]; simp
        · exact h2 t ht
    · exact .inr ⟨t, List.mem_cons_of_mem _ ht, h⟩
theorem mem_stAt {ss : List SD} {s : SD} (h : s ∈ ss) : ∃ i, i < ss.length ∧ stAt ss i = s := by
  obtain ⟨i, hi⟩ := List.getElem?_of_mem h
  exact ⟨i, (List.getElem?_eq_some_iff.1 hi).1, stAt_some hi⟩
theorem stAt_mem {ss : List SD} {i : Nat} (h : i < ss.length) : stAt ss i ∈ ss := by
  rw [stAt_some (List.getElem?_eq_getElem h)]; exact List.getElem_mem h
theorem clubN_best {ss : List SD} (hw : ∀ i, i < ss.length → 1 ≤ (stAt ss i).week) (who : ByteArray) : ∀ n : Nat, Best ss who n (clubN ss who n)
  | 0 => .inl ⟨rfl, fun i hi _ h => by have := hw i hi; omega⟩
  | n + 1 => by
    have ih := clubN_best hw who n
    rw [clubN]
    rcases innerC_cases who ((n : Int) + 1) (clubN ss who n) ss with ⟨h1, h2⟩ | ⟨s, hs, hp, hk, h⟩
    · rw [h1]
      have up : ∀ i, i < ss.length → (stAt ss i).player = who → (stAt ss i).week ≤ ((n + 1 : Nat) : Int) → (stAt ss i).week ≤ (n : Int) := fun i hi hp hk => by
        have := h2 _ (stAt_mem hi) hp
        omega
      rcases ih with ⟨e, h0⟩ | ⟨i, hi, pi, wi, e, mi⟩
      · exact .inl ⟨e, fun i hi hp hk => h0 i hi hp (up i hi hp hk)⟩
      · exact .inr ⟨i, hi, pi, by omega, e, fun j hj pj wj => mi j hj pj (up j hj pj wj)⟩
    · rw [h]
      obtain ⟨i, hi, rfl⟩ := mem_stAt hs
      exact .inr ⟨i, hi, hp, by omega, rfl, fun j hj pj wj => by omega⟩
theorem clubB_best {ss : List SD} (hs : SortedS ss) (who : ByteArray) (week : Int) : Best ss who week (clubB ss who week) := by
  have hmono : ∀ i j, i < j → j < ss.length → decide (0 < cmpSt (stAt ss i) (askS who week)) = true → decide (0 < cmpSt (stAt ss j) (askS who week)) = true := fun i j hij hj h => by
    rw [decide_eq_true_eq, cmpSt_pos] at h ⊢
    exact ltD_trans h (hs i j hij hj)
  obtain ⟨hlo, hhi⟩ := sr_spec hmono ss.length 0 ss.length (Nat.zero_le _) (Nat.le_refl _) (by omega) (fun k hk => by omega) (fun k hk hkn => by omega)
  have hle : clubK ss who week ≤ ss.length := srI_le _ _
  have hlo' : ∀ k, k < clubK ss who week → ¬ ltD (askS who week) (stAt ss k) := fun k hk h => by
    have := hlo k hk
    rw [decide_eq_false_iff_not, cmpSt_pos] at this
    exact this h
  have hhi' : ∀ k, clubK ss who week ≤ k → k < ss.length → ltD (askS who week) (stAt ss k) := fun k hk hkn => by
    have := hhi k hk hkn
    rw [decide_eq_true_eq, cmpSt_pos] at this
    exact this
  clear hlo hhi
  have below : ∀ k, k < ss.length → (stAt ss k).player = who → (stAt ss k).week ≤ week → k < clubK ss who week := fun k hk hp hw => by
    rcases Nat.lt_or_ge k (clubK ss who week) with h | h
    · exact h
    · rcases hhi' k h hk with h' | ⟨_, h'⟩
      · rw [show (askS who week).player = who from rfl, hp, ltS_irrefl] at h'; cases h'
      · rw [show (askS who week).week = week from rfl] at h'; omega
  unfold clubB
  by_cases hk : clubK ss who week = 0
  · rw [if_pos hk]
    exact .inl ⟨rfl, fun i hi hp hw => by have := below i hi hp hw; omega⟩
  · rw [if_neg hk]
    have hK : clubK ss who week - 1 < ss.length := by omega
    have hno := hlo' (clubK ss who week - 1) (by omega)
    cases hq : beqS (stAt ss (clubK ss who week - 1)).player who
    · rw [if_neg (by simp)]
      refine .inl ⟨rfl, fun i hi hp hw => ?_⟩
      have hb := below i hi hp hw
      rcases Nat.lt_or_eq_of_le (show i ≤ clubK ss who week - 1 by omega) with h | rfl
      · rcases hs i _ h hK with h' | ⟨h', _⟩
        · apply hno
          left
          rw [hp] at h'
          exact h'
        · rw [← h', hp, beqS_self] at hq; cases hq
      · rw [hp, beqS_self] at hq; cases hq
    · rw [if_pos rfl]
      have hp := beqS_iff.1 hq
      refine .inr ⟨_, hK, hp, ?_, rfl, fun j hj pj wj => ?_⟩
      · rcases Int.lt_or_le week (stAt ss (clubK ss who week - 1)).week with h | h
        · exact absurd (.inr ⟨hp.symm, h⟩) hno
        · exact h
      · have hb := below j hj pj wj
        rcases Nat.lt_or_eq_of_le (show j ≤ clubK ss who week - 1 by omega) with h | rfl
        · rcases hs j _ h hK with h' | ⟨_, h'⟩
          · rw [pj, hp, ltS_irrefl] at h'; cases h'
          · omega
        · exact Int.le_refl _
/-- The club that the program finds is the one that the reference finds. -/
theorem clubB_eq {ps : List PD} {ss : List SD} (h : chkSt ps ss = 0) (who : ByteArray) (m : Nat) : clubB ss who m = clubN ss who m :=
  (clubB_best (sortedS_of h) who m).one (sortedS_of h) (clubN_best (fun i hi => (stF_wk (chkSt_each h i hi)).1) who m)
end Go.Proofs.YtmjkbmkjnbpgeaaGreatDoor
namespace Go.Proofs.YtmjkbmkjnbpgeaaGreatDoor
open Go.RowKit

theorem plays_one (w : World) (p : PD) (h : p.pos.length ≤ 1000000) :
    Plays ((w.alloc (.cells (p.pos.map Value.string).toArray 9)).alloc (.cells #[.string p.key, .string p.name, .slice (some ⟨w.heap.size, 0, none⟩) p.pos.length p.pos.length] 86)) w.heap.size (.slice (some ⟨w.heap.size + 1, 0, none⟩) 1 1) [p] := by
  refine ⟨[.slice (some ⟨w.heap.size, 0, none⟩) p.pos.length p.pos.length], rfl, ?_, ?_⟩
  · refine Rows.of_owns (rows := [[.string p.key, .string p.name, .slice (some ⟨w.heap.size, 0, none⟩) p.pos.length p.pos.length]]) ?_ (by simp) (by simp)
    have := World.ownsRow_lit (base := w.heap.size) (e := 86) (size := 3) (w.alloc (.cells (p.pos.map Value.string).toArray 9)) #[.string p.key, .string p.name, .slice (some ⟨w.heap.size, 0, none⟩) p.pos.length p.pos.length] 1 (by simp) (by unfold maxLen; omega) rfl
    simpa using this
  · intro i x q hx hq
    match i, hx, hq with
    | 0, hx, hq =>
      simp at hx hq
      subst hx; subst hq
      exact (strs_new w p.pos h).below (below_alloc _ _)

set_option maxRecDepth 100000 in
set_option maxHeartbeats 2000000 in
theorem listed_calls (w : World) (hG : Glob w) : Calls Tryz.prog 25 #[] w (BoolIs true w) := by
  have hp := plays_one w ⟨⟨#[97]⟩, N0, [⟨#[100, 102]⟩]⟩ (by simp)
  have hb := below_step (below_alloc w (.cells #[.string ⟨#[100, 102]⟩] 9)) (below_alloc _ (.cells #[.string ⟨#[97]⟩, .string N0, .slice (some ⟨w.heap.size, 0, none⟩) 1 1] 86))
  have HC := Lib.hid (findL_calls w.heap.size _ P0 Q0 _ hp (fun p h => by
    simp only [P0, List.mem_singleton] at h
    subst h
    exact ⟨by unfold SmallP; decide +kernel, q0_ok.2⟩) (by simp [P0]) (hG.below hb) q0_ok.1)
  rw [p0_e, p0_r] at HC
  have HB := Lib.hid hb
  clear hp hb hG
  go_enter Tryz.func25, Tryz.ntmps25
  go_wp2_with fail
  refine HC.out.mono ?_
  rintro e w1 ⟨v, hv, rfl, hb1⟩
  obtain ⟨a, c, rfl⟩ := owns_shape hv
  have hb2 := below_step HB.out hb1
  have hS := strs_of_owns hv (by simp)
  have HE := Lib.hid (equal_calls _ _ _ _ [⟨#[97]⟩] [⟨#[97]⟩] _ (hS.below (below_alloc w1 (.cells #[.string ⟨#[97]⟩] 9))) (strs_new w1 [⟨#[97]⟩] (by simp)) (by simp) (by simp))
  clear hS hv hb1 HB
  go_wp2_with fail
  refine HE.out.mono ?_
  rintro e w2 ⟨rfl, hb3⟩
  go_wp2_with fail
  go_ret
  exact ⟨rfl, below_step (below_step hb2 (below_alloc w1 _)) hb3⟩
end Go.Proofs.YtmjkbmkjnbpgeaaGreatDoor
