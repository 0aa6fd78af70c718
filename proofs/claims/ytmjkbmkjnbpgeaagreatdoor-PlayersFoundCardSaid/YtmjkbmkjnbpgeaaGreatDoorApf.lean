/- In, and the reference's InPosition. -/
import Derived.Test.YtmjkbmkjnbpgeaaGreatDoorApe
import Derived.Test.YtmjkbmkjnbpgeaaGreatDoorBh
import Derived.Test.YtmjkbmkjnbpgeaaGreatDoorBj
namespace Go.Proofs.YtmjkbmkjnbpgeaaGreatDoor
open Go.RowKit

def hasS (ks : List ByteArray) (x : ByteArray) : Bool := ks.any fun k => beqS k x
theorem hasS_iff {ks : List ByteArray} {x : ByteArray} : hasS ks x = true ↔ x ∈ ks := by
  unfold hasS
  rw [List.any_eq_true]
  exact ⟨fun ⟨k, hk, h⟩ => by rw [← beqS_iff.1 h]; exact hk, fun h => ⟨x, h, beqS_self x⟩⟩
/-- slices.Contains on a row of strings. -/
theorem contains_calls (lo : Nat) (v : Value) (ks : List ByteArray) (x : ByteArray) (w : World) (hv : Strs w lo v ks) :
    Calls Tryz.prog 123 #[v, .string x] w fun e w' => e = .returned (.bool (hasS ks x)) ∧ w = w' := by
  rcases strs_at hv with ⟨rfl, rfl⟩ | ⟨g, off, cap, rfl, _, _, hn, hc⟩
  · refine (Tryz.slices_Contains_string_empty _ _ _ w).mono ?_
    rintro e w' ⟨rfl, rfl⟩
    exact ⟨by simp [hasS], rfl⟩
  · have cell : ∀ j, j < ks.length → w.cell? ⟨g, off + j, none⟩ = some (.string (ks.getD j ByteArray.empty)) := fun j hj => by
      rw [hc j ks[j] (List.getElem?_eq_getElem hj)]
      simp [List.getD_eq_getElem?_getD, List.getElem?_eq_getElem hj]
    refine (Tryz.slices_Contains_string g off ks.length cap ks x w (Nat.le_refl _) (by omega) cell).mono ?_
    rintro e w' ⟨rfl, rfl⟩
    refine ⟨?_, rfl⟩
    rw [List.take_length]
    have : Lib.containsS ks x = hasS ks x := by rw [Bool.eq_iff_iff, Lib.containsS_iff, hasS_iff]
    rw [this]
set_option maxRecDepth 100000 in
set_option maxHeartbeats 1000000 in
theorem in1_calls (c lo : Nat) (k nm pos : ByteArray) (x : Value) (ks : List ByteArray) (w : World) (hx : Strs w lo x ks) (hc : w.cell? ⟨c, 0, none⟩ = some (.string pos)) :
    Calls Tryz.prog 122 #[.agg #[.string k, .string nm, x], .pointer (some ⟨c, 0, none⟩)] w (BoolIs (hasS ks pos) w) := by
  obtain ⟨a, cc, rfl⟩ := strs_shape' hx
  have hb := below_alloc w (.cells #[.string k, .string nm, .slice a ks.length cc] 86)
  have C := Lib.hid (contains_calls lo _ ks pos _ (hx.below hb))
  have hc' := below_cell hb hc
  clear hx hc
  go_enter Tryz.func122, Tryz.ntmps122
  go_wp2_with fail
  refine C.out.mono ?_
  rintro e w' ⟨rfl, rfl⟩
  go_wp2_with fail
  go_ret
  exact ⟨rfl, hb⟩

def inE (ps : List PD) (pos : ByteArray) : Int := firstE [chkPs ps, unlessE (keyB pos) 5]
def inR (ps : List PD) (pos : ByteArray) : List ByteArray := if inE ps pos = 0 then thoseL (fun p => hasS p.pos pos) ps else []
set_option maxRecDepth 100000 in
set_option maxHeartbeats 2000000 in
theorem inX_calls (lo : Nat) (pv : Value) (ps : List PD) (pos : ByteArray) (w : World) (hp : Plays w lo pv ps) (hps : ∀ p ∈ ps, SmallP p) (hpn : ps.length ≤ 1000000) (hG : Glob w) (hcl : pos.size ≤ 1000000) :
    Calls Tryz.prog 49 #[pv, .string pos] w (MadeSE (inR ps pos) (inE ps pos) w) := by
  obtain ⟨pa, pc, rfl⟩ := plays_shape hp
  have HE := Lib.hid (show inE ps pos = firstE [chkPs ps, unlessE (keyB pos) 5] from rfl)
  have HR := Lib.hid (show inR ps pos = if inE ps pos = 0 then thoseL (fun p => hasS p.pos pos) ps else [] from rfl)
  generalize inE ps pos = E at HE HR ⊢
  generalize inR ps pos = R at HR ⊢
  obtain ⟨W, hW⟩ : ∃ W, W = w.alloc (.cells #[.string pos] 9) := ⟨_, rfl⟩
  have hwW : Below w.heap.size w W := by rw [hW]; exact below_alloc w _
  have x0 : W.cell? ⟨w.heap.size, 0, none⟩ = some (.string pos) := by rw [hW, World.cell?_alloc_at _ _ _ _ rfl]; rfl
  have hPW := hp.below hwW
  have hGW := hG.below hwW
  have HS := Lib.hid (show ∀ w', Below W.heap.size W w' → (Below W.heap.size W w' ∧ Plays w' lo (.slice pa ps.length pc) ps ∧ Glob w' ∧ w'.cell? ⟨w.heap.size, 0, none⟩ = some (.string pos)) from fun w' hb => ⟨hb, hPW.below hb, hGW.below hb, below_cell hb x0⟩)
  have hb0 := (Below.refl W.heap.size W).drew
  clear x0 hPW hGW hp hG
  go_enter Tryz.func49, Tryz.ntmps49
  go_upto_region 1 with fail
  rw [← hW]
  clear hW
  refine wp_region_held_drew (S := fun w' => Below W.heap.size W w' ∧ Plays w' lo (.slice pa ps.length pc) ps ∧ Glob w' ∧ w'.cell? ⟨w.heap.size, 0, none⟩ = some (.string pos)) (by kernel_rfl) ?_ (fun hHeld => ?_)
  · (exact HS.out _ (by first | assumption | exact hHeld.1 | exact below_step hHeld.1 (by assumption) | exact below_step hHeld.1 (below_alloc _ _)))
  refine take_at 0 7 (v := ?_) rfl rfl (by kernel_rfl) (by kernel_rfl) (by kernel_rfl) (fun _ _ _ h => h) (by rfl) ?y0 (by assumption) ?r0
  case y0 =>
    intro w hSw
    try dsimp only at hSw
    go_simp
    try with_reducible rfl
  simp only [List.set_cons_zero, List.set_cons_succ]
  refine take_at 2 9 (v := ?_) rfl rfl (by kernel_rfl) (by kernel_rfl) (by kernel_rfl) (fun _ _ _ h => h) (by rfl) ?y2 (by assumption) ?r2
  case y2 =>
    intro w hSw
    try dsimp only at hSw
    go_simp
    try with_reducible rfl
  simp only [List.set_cons_zero, List.set_cons_succ]
  refine run_at 1 rfl (by kernel_rfl) (by rfl) (fun K hK => ?_)
  go_simp
  refine (checkPlayers_calls lo _ ps _ (by exact hHeld.2.1) hps hpn (by exact hHeld.2.2.1)).mono ?_
  rintro e w' ⟨rfl, hb⟩
  go_wp2_with fail
  refine hK.out _ _ ?_ (fun hHeld => ?_)
  · (exact HS.out _ (by first | assumption | exact hHeld.1 | exact below_step hHeld.1 (by assumption) | exact below_step hHeld.1 (below_alloc _ _)))
  clear hK K
  try simp only [Act.put, List.setIfInBounds_toArray, List.set_cons_zero, List.set_cons_succ]
  refine run_at 3 rfl (by kernel_rfl) (by rfl) (fun K hK => ?_)
  go_simp
  refine (key_calls _ _ hcl).mono ?_
  rintro e w' ⟨rfl, rfl⟩
  go_wp2_with fail
  refine hK.out _ _ ?_ (fun hHeld => ?_)
  · (exact HS.out _ (by first | assumption | exact hHeld.1 | exact below_step hHeld.1 (by assumption) | exact below_step hHeld.1 (below_alloc _ _)))
  clear hK K
  try simp only [Act.put, List.setIfInBounds_toArray, List.set_cons_zero, List.set_cons_succ]
  refine run_at 4 rfl (by kernel_rfl) (by rfl) (fun K hK => ?_)
  go_simp
  refine (unless_calls _ _ _).mono ?_
  rintro e w' ⟨rfl, rfl⟩
  go_wp2_with fail
  refine hK.out _ _ ?_ (fun hHeld => ?_)
  · (exact HS.out _ (by first | assumption | exact hHeld.1 | exact below_step hHeld.1 (by assumption) | exact below_step hHeld.1 (below_alloc _ _)))
  clear hK K
  try simp only [Act.put, List.setIfInBounds_toArray, List.set_cons_zero, List.set_cons_succ]
  refine run_at 5 rfl (by kernel_rfl) (by rfl) (fun K hK => ?_)
  go_simp
  refine hK.out _ _ ?_ (fun hHeld => ?_)
  · (exact HS.out _ (by first | assumption | exact hHeld.1 | exact below_step hHeld.1 (by assumption) | exact below_step hHeld.1 (below_alloc _ _)))
  clear hK K
  try simp only [Act.put, List.setIfInBounds_toArray, List.set_cons_zero, List.set_cons_succ]
  refine run_at 6 rfl (by kernel_rfl) (by rfl) (fun K hK => ?_)
  go_simp
  refine (orE_calls _ 0 2 [chkPs ps, unlessE (keyB pos) 5] _ (by simp) (by exact nums2 _ _ _ _)).mono ?_
  rintro e w' ⟨rfl, rfl⟩
  go_wp2_with fail
  refine hK.out _ _ ?_ (fun hHeld => ?_)
  · (exact HS.out _ (by first | assumption | exact hHeld.1 | exact below_step hHeld.1 (by assumption) | exact below_step hHeld.1 (below_alloc _ _)))
  clear hK K
  try simp only [Act.put, List.setIfInBounds_toArray, List.set_cons_zero, List.set_cons_succ]
  refine take_at 7 6 (v := ?_) rfl rfl (by kernel_rfl) (by kernel_rfl) (by kernel_rfl) (fun _ _ _ h => h) (by rfl) ?y7 (by assumption) ?r7
  case y7 =>
    intro w hSw
    try dsimp only at hSw
    go_simp
    try with_reducible rfl
  simp only [List.set_cons_zero, List.set_cons_succ]
  refine wpAnyH_done (by kernel_rfl) ?_ _
  rw [← HE.out]
  generalize w'.alloc (.cells #[.int .i64 (chkPs ps), .int .i64 (unlessE (keyB pos) 5)] 32) = W9 at hHeld ⊢
  obtain ⟨hb, hP, _, x0⟩ := hHeld
  have hbw := below_step hwW hb
  by_cases hz : E = 0
  · have e1 : (E != 0) = false := by simp [hz]
    have Hz := Lib.hid hz
    have HC := Lib.hid (⟨hbw, x0⟩ : Below w.heap.size w W9 ∧ W9.cell? ⟨w.heap.size, 0, none⟩ = some (.string pos))
    clear hz hb hbw x0
    go_wp2_with fail
    refine (those_calls 122 _ (enters_of Tryz.func122 (by kernel_rfl) rfl) (fun p => hasS p.pos pos) lo _ ps _ hP (fun W' i p x hi hb' hx => ?s1)).mono ?_
    case s1 => exact in1_calls _ lo p.key p.name pos _ p.pos W' hx (below_cell hb' HC.out.2)
    rintro e w4 ⟨v4, ho, rfl, hb4⟩
    go_wp2_with fail
    go_ret2
    refine ⟨v4, ?_, ?_, below_step HC.out.1 hb4⟩
    · rw [HR.out, if_pos Hz.out]; exact owns_mono ho HC.out.1.size
    · rw [Hz.out]; rfl
  · have e1 : (E != 0) = true := by simp [hz]
    have Hz := Lib.hid hz
    clear hz
    go_wp2_with fail
    go_ret2
    refine ⟨.slice none 0 0, ?_, rfl, hbw⟩
    rw [HR.out, if_neg Hz.out]
    exact World.ownsRow_nil _ _ _ _

set_option maxRecDepth 100000 in
set_option maxHeartbeats 2000000 in
theorem inPosition_calls (lo : Nat) (pos : ByteArray) (v : Value) (ps : List PD) (w : World) (hp : Plays w lo v ps) :
    Calls Tryz.prog 53 #[v, .string pos] w (MadeS (thoseL (fun p => hasS p.pos pos) ps) w) := by
  obtain ⟨i0, hi, hz0, hz1, hz2⟩ := info_parts info_str
  rcases plays_at hp with ⟨rfl, rfl⟩ | ⟨gg, off, cap, rfl, hlo, hg, hnn, hcell⟩
  · clear hp hi hz0 hz1 hz2
    go_enter Tryz.func53, Tryz.ntmps53
    go_wp2
    refine wp_loop_rounds 1 ?_
    rw [rounds_succ]
    go_wp2
    go_ret
    exact ⟨_, World.ownsRow_nil _ _ _ _, rfl, Below.refl _ _⟩
  · have Hc := Lib.hid hcell
    clear hp hcell
    go_enter Tryz.func53, Tryz.ntmps53
    go_wp2_with fail
    go_loopw [5, 10] (fun out i wr => ∃ k : Nat, k ≤ ps.length ∧ i = .int .i64 k ∧ OwnS wr w.heap.size out (thoseL (fun p => hasS p.pos pos) (ps.take k)) ∧ Below w.heap.size w wr) (fun _ i _ => ps.length - (intOf i).toNat)
    case atStart => exact ⟨0, Nat.zero_le _, rfl, World.ownsRow_nil _ _ _ _, Below.refl _ _⟩
    case round =>
      obtain ⟨k, hk, rfl, hown, hb⟩ := hrel
      by_cases hlt : k < ps.length
      · obtain ⟨p, hpk⟩ : ∃ p, ps[k]? = some p := ⟨ps[k], List.getElem?_eq_getElem hlt⟩
        obtain ⟨pv, h0, h1, h2, h3⟩ := Hc.out k p hpk
        have g0 := below_cell hb h0
        have g1 := below_cell hb h1
        have g2 := below_cell hb h2
        obtain ⟨qa, qc, rfl⟩ := strs_shape h3
        have Hs := Lib.hid (thoseL_snoc (fun p => hasS p.pos pos) hpk)
        have hle := Lib.hid (thoseL_le (fun p => hasS p.pos pos) (ps.take k))
        have hba := below_alloc wr (.cells #[.string p.key, .string p.name, .slice qa p.pos.length qc] 86)
        have hbo := below_step hb hba
        have C := Lib.hid (contains_calls lo _ p.pos pos _ ((h3.below hb).below hba))
        have hown1 : OwnS (wr.alloc (.cells #[.string p.key, .string p.name, .slice qa p.pos.length qc] 86)) w.heap.size u5 (thoseL (fun p => hasS p.pos pos) (ps.take k)) := World.ownsRow.alloc hown _
        clear hpk h0 h1 h2 h3 hown
        cases hfp : hasS p.pos pos
        · have Hs' := Lib.hid (show thoseL (fun p => hasS p.pos pos) (ps.take (k + 1)) = thoseL (fun p => hasS p.pos pos) (ps.take k) by rw [Hs.out]; simp [hfp])
          have HF := Lib.hid hfp
          clear hfp
          go_wp2_with fail
          refine C.out.mono ?_
          rintro e w1 ⟨rfl, rfl⟩
          rw [HF.out]
          go_wp2_with fail
          go_roundw
          case rel => exact ⟨k + 1, by omega, by go_num, by rw [Hs'.out]; exact hown1, hbo⟩
          case measure => simp [intOf]; omega
        · have Hs' := Lib.hid (show thoseL (fun p => hasS p.pos pos) (ps.take (k + 1)) = thoseL (fun p => hasS p.pos pos) (ps.take k) ++ [p.key] by rw [Hs.out]; simp [hfp])
          have hl : (thoseL (fun p => hasS p.pos pos) (ps.take k)).length ≤ 1000000 := by have := hle.out; have := List.length_take_le k ps; omega
          have HF := Lib.hid hfp
          clear hfp
          go_wp2_with fail
          refine C.out.mono ?_
          rintro e w1 ⟨rfl, hw1⟩
          rw [HF.out]
          obtain ⟨w2, hw2⟩ : ∃ w2, w2 = w1 := ⟨_, rfl⟩
          rw [hw1] at hown1 hbo
          have d0 : w1.cell? ⟨wr.heap.size, 0, none⟩ = some (.string p.key) := by rw [← hw1, World.cell?_alloc_at _ _ _ _ rfl]; rfl
          clear hw1 hba hb g0 g1 g2 hw2
          go_wp2_with (at_builtin; refine wpList_append_own _ rfl _ _ 35 rfl w.heap.size 9 i0 (.string ⟨#[]⟩) 1 16 Tryz.underlying35 hi hz0 hz1 hz2 rfl (by decide) _ _ _ rfl (World.ownsRow.alloc hown1 _) ⟨w1.heap.size, 0, none⟩ 1 1 [.string p.key] rfl rfl ?c1 ?c2 ?c3 ?c4 ?c5 ?_)
          case c1 => exact cell_one_new _ _ _
          case c2 => simp [Value.oneCell']
          case c3 => unfold maxLen; omega
          case c4 => omega
          case c5 => have := hbo.size; simp; omega
          intro v' w3 hown3 hgrow _
          have hown3' : OwnS w3 w.heap.size v' (thoseL (fun p => hasS p.pos pos) (ps.take k) ++ [p.key]) := by unfold OwnS; simpa using hown3
          have hbw3 : Below w.heap.size w w3 := (below_step hbo (below_alloc w1 _)).grown hgrow (by have := hbo.size; simp; omega) fun r hr => (own_block hown1 r hr).1
          clear hown3 hgrow
          go_wp2_with fail
          go_roundw
          case rel => exact ⟨k + 1, by omega, by go_num, by rw [Hs'.out]; exact hown3', hbw3⟩
          case measure => simp [intOf]; omega
      · obtain rfl : k = ps.length := by omega
        have hT := Lib.hid (List.take_length (l := ps))
        go_wp2_with fail
        go_ret
        exact ⟨_, by rw [hT.out] at hown; exact hown, rfl, hb⟩
end Go.Proofs.YtmjkbmkjnbpgeaaGreatDoor
