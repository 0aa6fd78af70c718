/- The reference's SquadOf, and slices.Equal. -/
import Derived.Test.YtiedmbgdmafhaaaGreatDoorRefe
namespace Go.Proofs.YtiedmbgdmafhaaaGreatDoor
open Go.RowKit

set_option maxRecDepth 100000 in
set_option maxHeartbeats 2000000 in
theorem squadOf_calls (lo lo' : Nat) (club : ByteArray) (m : Nat) (v sv : Value) (ps : List PD) (ss : List SD) (w : World) (hp : Plays w lo v ps) (hS : Sts w lo' sv ss) (hn : ss.length ≤ 1000000) (hm : m ≤ 1000) :
    Calls Tryz.prog 22 #[v, sv, .string club, .int .i64 (m : Int)] w (MadeS (thoseL (fun p => beqS (clubN ss p.key m) club) ps) w) := by
  obtain ⟨i0, hi, hz0, hz1, hz2⟩ := info_parts info_str
  obtain ⟨sa, sc, rfl⟩ := sts_shape hS
  have HS := Lib.hid hS
  clear hS
  rcases plays_at hp with ⟨rfl, rfl⟩ | ⟨gg, off, cap, rfl, hlo, hg, hnn, hcell⟩
  · clear hp hi hz0 hz1 hz2
    go_enter Tryz.func22, Tryz.ntmps22
    go_wp2
    refine wp_loop_rounds 1 ?_
    rw [rounds_succ]
    go_wp2
    go_ret
    exact ⟨_, World.ownsRow_nil _ _ _ _, rfl, Below.refl _ _⟩
  · have Hc := Lib.hid hcell
    clear hp hcell
    go_enter Tryz.func22, Tryz.ntmps22
    go_wp2_with fail
    go_loopw [9, 14] (fun out i wr => ∃ k : Nat, k ≤ ps.length ∧ i = .int .i64 k ∧ OwnS wr w.heap.size out (thoseL (fun p => beqS (clubN ss p.key m) club) (ps.take k)) ∧ Below w.heap.size w wr) (fun _ i _ => ps.length - (intOf i).toNat)
    case atStart => exact ⟨0, Nat.zero_le _, rfl, World.ownsRow_nil _ _ _ _, Below.refl _ _⟩
    case round =>
      obtain ⟨k, hk, rfl, hown, hb⟩ := hrel
      by_cases hlt : k < ps.length
      · obtain ⟨p, hpk⟩ : ∃ p, ps[k]? = some p := ⟨ps[k], List.getElem?_eq_getElem hlt⟩
        obtain ⟨pv, h0, h1, h2, h3⟩ := Hc.out k p hpk
        have g0 := below_cell hb h0
        have g1 := below_cell hb h1
        have g2 := below_cell hb h2
        obtain ⟨qa, qc, rfl⟩ := strs_shape h3
        have Hs := Lib.hid (thoseL_snoc (fun p => beqS (clubN ss p.key m) club) hpk)
        have hle := Lib.hid (thoseL_le (fun p => beqS (clubN ss p.key m) club) (ps.take k))
        obtain ⟨c, hc⟩ : ∃ c, clubN ss p.key m = c := ⟨_, rfl⟩
        have Hf := Lib.hid (show (fun p : PD => beqS (clubN ss p.key m) club) p = beqS c club by rw [← hc])
        have HC := Lib.hid hc
        obtain ⟨f, hf⟩ : ∃ f, f = (fun p : PD => beqS (clubN ss p.key m) club) := ⟨_, rfl⟩
        rw [← hf] at hown Hs hle Hf
        have HF := Lib.hid hf
        clear hc hf
        have hbo := below_step hb (below_alloc wr (.cells #[.string p.key, .string p.name, .slice qa p.pos.length qc] 86))
        have HSo := Lib.hid ((HS.out.below hb).below (below_alloc wr (.cells #[.string p.key, .string p.name, .slice qa p.pos.length qc] 86)))
        clear hpk h0 h1 h2 h3
        go_wp2_with fail
        refine (clubOf_calls lo' p.key m _ ss _ HSo.out hn hm).mono ?_
        rintro e w1 ⟨rfl, hb1⟩
        have hown1 : OwnS w1 w.heap.size u9 (thoseL f (ps.take k)) := (World.ownsRow.alloc hown (.cells #[.string p.key, .string p.name, .slice qa p.pos.length qc] 86)).kept (gb_below hb1 none) (by cases hv : Value.ownBlock _ <;> simp)
        have hbw1 := below_step hbo hb1
        have d0 := below_cell hb1 (show (wr.alloc (.cells #[.string p.key, .string p.name, .slice qa p.pos.length qc] 86)).cell? ⟨wr.heap.size, 0, none⟩ = some (.string p.key) by rw [World.cell?_alloc_at _ _ _ _ rfl]; rfl)
        clear hbo hown g0 g1 g2
        rw [HC.out]
        cases hfp : beqS c club
        · have e1 : (c.toList == club.toList) = false := hfp
          have e2 : (!(c.toList == club.toList)) = true := by rw [e1]; rfl
          have Hs' := Lib.hid (show thoseL f (ps.take (k + 1)) = thoseL f (ps.take k) by rw [Hs.out, HC.out, hfp]; simp)
          clear hfp
          go_wp2_with fail
          go_roundw
          case rel => exact ⟨k + 1, by omega, by go_num, by rw [← HF.out, Hs'.out]; exact hown1, hbw1⟩
          case measure => simp [intOf]; omega
        · have e1 : (c.toList == club.toList) = true := hfp
          have e2 : (!(c.toList == club.toList)) = false := by rw [e1]; rfl
          have Hs' := Lib.hid (show thoseL f (ps.take (k + 1)) = thoseL f (ps.take k) ++ [p.key] by rw [Hs.out, HC.out, hfp]; simp)
          have hl : (thoseL f (ps.take k)).length ≤ 1000000 := by have := hle.out; have := List.length_take_le k ps; omega
          clear hfp
          go_wp2_with (at_builtin; refine wpList_append_own _ rfl _ _ 35 rfl w.heap.size 9 i0 (.string ⟨#[]⟩) 1 16 Tryz.underlying35 hi hz0 hz1 hz2 rfl (by decide) _ _ _ rfl (World.ownsRow.alloc hown1 _) ⟨w1.heap.size, 0, none⟩ 1 1 [.string p.key] rfl rfl ?c1 ?c2 ?c3 ?c4 ?c5 ?_)
          case c1 => exact cell_one_new _ _ _
          case c2 => simp [Value.oneCell']
          case c3 => unfold maxLen; omega
          case c4 => omega
          case c5 => have := hbw1.size; simp; omega
          intro v' w2 hown2 hgrow _
          have hown2' : OwnS w2 w.heap.size v' (thoseL f (ps.take k) ++ [p.key]) := by unfold OwnS; simpa using hown2
          have hbw2 : Below w.heap.size w w2 := (below_step hbw1 (below_alloc w1 _)).grown hgrow (by have := hbw1.size; simp; omega) fun r hr => (own_block hown1 r hr).1
          clear hown2 hgrow
          go_wp2_with fail
          go_roundw
          case rel => exact ⟨k + 1, by omega, by go_num, by rw [← HF.out, Hs'.out]; exact hown2', hbw2⟩
          case measure => simp [intOf]; omega
      · obtain rfl : k = ps.length := by omega
        have hT := Lib.hid (List.take_length (l := ps))
        go_wp2_with fail
        go_ret
        exact ⟨_, by rw [hT.out] at hown; exact hown, rfl, hb⟩

/-- slices.Equal on two rows of strings. -/
theorem equal_calls (lo lo' : Nat) (v v' : Value) (ks js : List ByteArray) (w : World) (hv : Strs w lo v ks) (hv' : Strs w lo' v' js) (hk : ks.length ≤ 1000000) (hj : js.length ≤ 1000000) :
    Calls Tryz.prog 25 #[v, v'] w (BoolIs (decide (ks = js)) w) := by
  rcases strs_at hv with ⟨rfl, rfl⟩ | ⟨g, off, cap, rfl, _, _, _, hc⟩
  · obtain ⟨a, c, rfl⟩ := strs_shape' hv'
    refine (Tryz.slices_Equal_string_empty _ _ _ _ _ w (by omega)).mono ?_
    rintro e w' ⟨rfl, rfl⟩
    refine ⟨?_, Below.refl _ _⟩
    congr 3
    exact propext ⟨fun h => (List.eq_nil_of_length_eq_zero h).symm, fun h => by rw [← h]; rfl⟩
  · rcases strs_at hv' with ⟨rfl, rfl⟩ | ⟨g', off', cap', rfl, _, _, _, hc'⟩
    · by_cases h0 : ks.length = 0
      · have : ks = [] := List.eq_nil_of_length_eq_zero h0
        subst this
        refine (Tryz.slices_Equal_string_empty _ _ _ _ _ w (by simp)).mono ?_
        rintro e w' ⟨rfl, rfl⟩
        exact ⟨by simp, Below.refl _ _⟩
      · refine (Tryz.slices_Equal_string_lens _ _ _ _ _ _ w (by simpa using h0)).mono ?_
        rintro e w' ⟨rfl, rfl⟩
        refine ⟨?_, Below.refl _ _⟩
        have : ¬ ks = [] := fun e => h0 (by rw [e]; rfl)
        simp [this]
    · have cell : ∀ (xs : List ByteArray) (b o : Nat), (∀ (i : Nat) (k : ByteArray), xs[i]? = some k → w.cell? ⟨b, o + i, none⟩ = some (.string k)) → ∀ j, j < xs.length → w.cell? ⟨b, o + j, none⟩ = some (.string (xs.getD j ByteArray.empty)) := fun xs b o h j hj => by
        rw [h j xs[j] (List.getElem?_eq_getElem hj)]
        simp [List.getD_eq_getElem?_getD, List.getElem?_eq_getElem hj]
      refine (Tryz.slices_Equal_string g off ks.length cap g' off' js.length cap' ks js w (Nat.le_refl _) (Nat.le_refl _) (by omega) (by omega) (cell ks g off hc) (cell js g' off' hc')).mono ?_
      rintro e w' ⟨rfl, q, rfl⟩
      exact ⟨by rw [List.take_length, List.take_length], have h := Below.refl w.heap.size w; ⟨h.os, h.tape, h.output, h.size, h.block⟩⟩
end Go.Proofs.YtiedmbgdmafhaaaGreatDoor
