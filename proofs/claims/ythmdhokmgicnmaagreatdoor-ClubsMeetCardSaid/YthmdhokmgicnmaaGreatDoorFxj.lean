/- Games. -/
import Derived.Test.YthmdhokmgicnmaaGreatDoorFxi
import Derived.Test.YthmdhokmgicnmaaGreatDoorSquad
namespace Go.Proofs.YthmdhokmgicnmaaGreatDoor
open Go.RowKit

/-- Does a club play in a week? -/
def meets (week : Int) (club : ByteArray) (f : FD) : Bool := f.week == week && (beqS f.home club || beqS f.away club)
theorem filter_snoc {α : Type} (p : α → Bool) {l : List α} {k : Nat} {x : α} (hk : l[k]? = some x) : (l.take (k + 1)).filter p = (l.take k).filter p ++ (if p x then [x] else []) := by
  have hlt : k < l.length := (List.getElem?_eq_some_iff.1 hk).1
  have e : l.take (k + 1) = l.take k ++ [x] := by
    rw [List.take_succ_eq_append_getElem hlt, (List.getElem?_eq_some_iff.1 hk).2]
  rw [e, List.filter_append]
  cases hp : p x <;> simp [hp]
def gamesE (fs : List FD) (club : ByteArray) (week : Int) : Int := firstE [chkFx fs, unlessE (keyB club) 5, unlessE (betwB week 1 60) 1]
def gamesR (fs : List FD) (club : ByteArray) (week : Int) : List FD := if gamesE fs club week = 0 then fs.filter (meets week club) else []
def MadeFE (fs : List FD) (x : Int) (w : World) (e : Ending) (w' : World) : Prop := ∃ v, OwnFx w' w.heap.size v fs ∧ e = .returned (.tuple #[v, .int .i64 x]) ∧ Below w.heap.size w w'
set_option maxRecDepth 100000 in
set_option maxHeartbeats 4000000 in
theorem games_calls (lo : Nat) (v : Value) (fs : List FD) (club : ByteArray) (week : Int) (w : World) (hF : Fxs w lo v fs) (hok : ∀ f ∈ fs, OkF f) (hn : fs.length ≤ 10000) (hcl : club.size ≤ 1000000) :
    Calls Tryz.prog 39 #[v, .string club, .int .i64 week] w (MadeFE (gamesR fs club week) (gamesE fs club week) w) := by
  obtain ⟨i0, hi, hz0, hz1, hz2⟩ := info_parts info_fx
  have HE := Lib.hid (show gamesE fs club week = firstE [chkFx fs, unlessE (keyB club) 5, unlessE (betwB week 1 60) 1] from rfl)
  have HR := Lib.hid (show gamesR fs club week = if gamesE fs club week = 0 then fs.filter (meets week club) else [] from rfl)
  generalize gamesE fs club week = E at HE HR ⊢
  generalize gamesR fs club week = R at HR ⊢
  have hF' := hF
  obtain ⟨fa, fc, rfl⟩ := fxs_shape hF
  have C := Lib.hid (checkFixtures_calls lo _ fs w hF hok (by omega))
  clear hF
  go_enter Tryz.func39, Tryz.ntmps39
  go_wp2_with fail
  refine C.out.mono ?_
  rintro e w1 ⟨rfl, hb1⟩
  have hF1 := hF'.below hb1
  clear C hF'
  go_wp2_with fail
  refine (key_calls _ _ hcl).mono ?_
  rintro e w' ⟨rfl, rfl⟩
  go_wp2_with fail
  refine (unless_calls _ _ _).mono ?_
  rintro e w' ⟨rfl, rfl⟩
  go_wp2_with fail
  refine (week_calls _ _).mono ?_
  rintro e w' ⟨rfl, rfl⟩
  go_wp2_with fail
  refine (unless_calls _ _ _).mono ?_
  rintro e w' ⟨rfl, rfl⟩
  go_wp2_with fail
  refine (orE_calls _ 0 3 [chkFx fs, unlessE (keyB club) 5, unlessE (betwB week 1 60) 1] _ (by simp) (by exact nums3 _ _ _ _ _)).mono ?_
  rintro e w2 ⟨rfl, hw2⟩
  rw [← HE.out]
  have hF2 := hF1.below (below_alloc w1 (.cells #[.int .i64 (chkFx fs), .int .i64 (unlessE (keyB club) 5), .int .i64 (unlessE (betwB week 1 60) 1)] 32))
  have hb2 := below_step hb1 (below_alloc w1 (.cells #[.int .i64 (chkFx fs), .int .i64 (unlessE (keyB club) 5), .int .i64 (unlessE (betwB week 1 60) 1)] 32))
  rw [hw2] at hF2 hb2
  clear hw2 hF1 hb1
  by_cases hz : E = 0
  · have e1 : (E != 0) = false := by simp [hz]
    have Hz := Lib.hid hz
    have HR' := Lib.hid (show R = fs.filter (meets week club) by rw [HR.out, if_pos hz])
    clear hz
    rcases fxs_at hF2 with ⟨h1, rfl⟩ | ⟨g, off, cap, h1, hlo, hg, hn1, hcell⟩
    · obtain ⟨rfl, rfl⟩ : fa = none ∧ fc = 0 := by simpa using h1
      clear hF2
      go_wp2_with fail
      refine wp_loop_rounds 1 ?_
      rw [rounds_succ]
      go_wp2_with fail
      go_ret2
      refine ⟨_, ?_, by rw [Hz.out]; rfl, hb2⟩
      rw [HR'.out]
      exact World.ownsRow_nil _ _ _ _
    · simp only [Value.slice.injEq, true_and] at h1
      obtain ⟨rfl, rfl⟩ := h1
      have Hc := Lib.hid hcell
      clear hF2 hcell
      go_wp2_with fail
      go_loopw [9, 27] (fun out i wr => ∃ k : Nat, k ≤ fs.length ∧ i = .int .i64 k ∧ OwnFx wr w2.heap.size out ((fs.take k).filter (meets week club)) ∧ Below w2.heap.size w2 wr) (fun _ i _ => fs.length - (intOf i).toNat)
      case atStart => exact ⟨0, Nat.zero_le _, rfl, World.ownsRow_nil _ _ _ _, Below.refl _ _⟩
      case round =>
        obtain ⟨k, hk, rfl, hown, hbb⟩ := hrel
        by_cases hlt : k < fs.length
        · obtain ⟨f, hf⟩ : ∃ f, fs[k]? = some f := ⟨fs[k], List.getElem?_eq_getElem hlt⟩
          have Hs := Lib.hid (filter_snoc (meets week club) hf)
          obtain ⟨q0, q1, q2, q3⟩ := Hc.out k f hf
          have g0 := below_cell hbb q0
          have g1 := below_cell hbb q1
          have g2 := below_cell hbb q2
          have g3 := below_cell hbb q3
          have hle : ((fs.take k).filter (meets week club)).length ≤ 1000000 := by
            have h1 := List.length_filter_le (meets week club) (fs.take k)
            have h2 := List.length_take_le k fs
            omega
          generalize (fs.take k).filter (meets week club) = L at Hs hown hle
          clear hf q0 q1 q2 q3
          cases hw : f.week == week
          · have Hs' := Lib.hid (show (fs.take (k + 1)).filter (meets week club) = L by rw [Hs.out]; simp [meets, hw])
            have hbb' := below_step hbb (below_alloc wr (.cells #[.int .i64 f.week, .int .i64 f.moment, .string f.home, .string f.away] 72))
            have hown' : OwnFx _ w2.heap.size _ L := World.ownsRow.alloc hown (.cells #[.int .i64 f.week, .int .i64 f.moment, .string f.home, .string f.away] 72)
            clear hbb hown
            go_wp2_with fail
            go_roundw
            case rel => exact ⟨k + 1, by omega, by go_num, by rw [Hs'.out]; exact hown', hbb'⟩
            case measure => simp [intOf]; omega
          · cases hh : beqS f.home club
            · have e2 : (f.home.toList == club.toList) = false := hh
              cases ha : beqS f.away club
              · have e3 : (f.away.toList == club.toList) = false := ha
                have Hs' := Lib.hid (show (fs.take (k + 1)).filter (meets week club) = L by rw [Hs.out]; simp [meets, hw, hh, ha])
                have hbb' := below_step hbb (below_alloc wr (.cells #[.int .i64 f.week, .int .i64 f.moment, .string f.home, .string f.away] 72))
                have hown' : OwnFx _ w2.heap.size _ L := World.ownsRow.alloc hown (.cells #[.int .i64 f.week, .int .i64 f.moment, .string f.home, .string f.away] 72)
                clear hbb hown
                go_wp2_with fail
                go_roundw
                case rel => exact ⟨k + 1, by omega, by go_num, by rw [Hs'.out]; exact hown', hbb'⟩
                case measure => simp [intOf]; omega
              · have e3 : (f.away.toList == club.toList) = true := ha
                have Hs' := Lib.hid (show (fs.take (k + 1)).filter (meets week club) = L ++ [f] by rw [Hs.out]; simp [meets, hw, hh, ha])
                have hbb' := below_step hbb (below_alloc wr (.cells #[.int .i64 f.week, .int .i64 f.moment, .string f.home, .string f.away] 72))
                have hown' : OwnFx _ w2.heap.size _ L := World.ownsRow.alloc hown (.cells #[.int .i64 f.week, .int .i64 f.moment, .string f.home, .string f.away] 72)
                have hwr := hbb.size
                clear hbb hown
                go_wp2_with (at_builtin; refine wpList_append_own _ rfl _ _ 51 rfl w2.heap.size 72 i0 (.agg #[.int .i64 0, .int .i64 0, .string ⟨#[]⟩, .string ⟨#[]⟩]) 4 48 Tryz.underlying51 hi hz0 hz1 hz2 rfl (by decide) _ _ _ rfl (World.ownsRow.alloc hown' _) ⟨wr.heap.size + 1, 0, none⟩ 1 1 [.int .i64 f.week, .int .i64 f.moment, .string f.home, .string f.away] rfl rfl ?c1 ?c2 ?c3 ?c4 ?c5 ?_)
                case c1 =>
                  have := cell_four_new (wr.alloc (.cells #[.int .i64 f.week, .int .i64 f.moment, .string f.home, .string f.away] 72)) (.int .i64 f.week) (.int .i64 f.moment) (.string f.home) (.string f.away) 72
                  simpa using this
                case c2 => simp [Value.oneCell']
                case c3 => unfold maxLen; omega
                case c4 => omega
                case c5 => simp; omega
                intro v' w6 hown6 hgrow _
                have hown6' : OwnFx w6 w2.heap.size v' (L ++ [f]) := by unfold OwnFx; simpa [fxRow] using hown6
                have hbb6 : Below w2.heap.size w2 w6 := (below_step hbb' (below_alloc _ _)).grown hgrow (by simp; omega) fun r hr => (own_block hown' r hr).1
                clear hown6 hgrow hbb' hown'
                go_wp2_with fail
                go_roundw
                case rel => exact ⟨k + 1, by omega, by go_num, by rw [Hs'.out]; exact hown6', hbb6⟩
                case measure => simp [intOf]; omega
            · have e2 : (f.home.toList == club.toList) = true := hh
              have Hs' := Lib.hid (show (fs.take (k + 1)).filter (meets week club) = L ++ [f] by rw [Hs.out]; simp [meets, hw, hh])
              have hbb' := below_step hbb (below_alloc wr (.cells #[.int .i64 f.week, .int .i64 f.moment, .string f.home, .string f.away] 72))
              have hown' : OwnFx _ w2.heap.size _ L := World.ownsRow.alloc hown (.cells #[.int .i64 f.week, .int .i64 f.moment, .string f.home, .string f.away] 72)
              have hwr := hbb.size
              clear hbb hown
              go_wp2_with (at_builtin; refine wpList_append_own _ rfl _ _ 51 rfl w2.heap.size 72 i0 (.agg #[.int .i64 0, .int .i64 0, .string ⟨#[]⟩, .string ⟨#[]⟩]) 4 48 Tryz.underlying51 hi hz0 hz1 hz2 rfl (by decide) _ _ _ rfl (World.ownsRow.alloc hown' _) ⟨wr.heap.size + 1, 0, none⟩ 1 1 [.int .i64 f.week, .int .i64 f.moment, .string f.home, .string f.away] rfl rfl ?c1 ?c2 ?c3 ?c4 ?c5 ?_)
              case c1 =>
                have := cell_four_new (wr.alloc (.cells #[.int .i64 f.week, .int .i64 f.moment, .string f.home, .string f.away] 72)) (.int .i64 f.week) (.int .i64 f.moment) (.string f.home) (.string f.away) 72
                simpa using this
              case c2 => simp [Value.oneCell']
              case c3 => unfold maxLen; omega
              case c4 => omega
              case c5 => simp; omega
              intro v' w6 hown6 hgrow _
              have hown6' : OwnFx w6 w2.heap.size v' (L ++ [f]) := by unfold OwnFx; simpa [fxRow] using hown6
              have hbb6 : Below w2.heap.size w2 w6 := (below_step hbb' (below_alloc _ _)).grown hgrow (by simp; omega) fun r hr => (own_block hown' r hr).1
              clear hown6 hgrow hbb' hown'
              go_wp2_with fail
              go_roundw
              case rel => exact ⟨k + 1, by omega, by go_num, by rw [Hs'.out]; exact hown6', hbb6⟩
              case measure => simp [intOf]; omega
        · obtain rfl : k = fs.length := by omega
          have hT := Lib.hid (List.take_length (l := fs))
          go_wp2_with fail
          go_ret2
          refine ⟨_, ?_, by rw [Hz.out]; rfl, below_step hb2 hbb⟩
          rw [HR'.out]
          rw [hT.out] at hown
          exact owns_mono hown hb2.size
  · have e1 : (E != 0) = true := by simp [hz]
    have HR' := Lib.hid (show R = [] by rw [HR.out, if_neg hz])
    clear hz
    go_wp2_with fail
    go_ret2
    refine ⟨_, ?_, rfl, hb2⟩
    rw [HR'.out]
    exact World.ownsRow_nil _ _ _ _
end Go.Proofs.YthmdhokmgicnmaaGreatDoor
