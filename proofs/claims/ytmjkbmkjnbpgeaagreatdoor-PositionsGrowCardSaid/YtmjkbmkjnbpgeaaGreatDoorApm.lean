/- Grown: players with the positions that they have by a week. -/
import Derived.Test.YtmjkbmkjnbpgeaaGreatDoorApl
import Derived.Test.YtmjkbmkjnbpgeaaGreatDoorApd
import Derived.Test.YtmjkbmkjnbpgeaaGreatDoorBk
import Derived.Test.YtmjkbmkjnbpgeaaGreatDoorBh
namespace Go.Proofs.YtmjkbmkjnbpgeaaGreatDoor
open Go.RowKit

theorem Plays.mono {w : World} {lo lo' : Nat} {v : Value} {ps : List PD} (h : Plays w lo v ps) (hl : lo' ≤ lo) : Plays w lo' v ps := by
  obtain ⟨pvs, a, b, c⟩ := h
  exact ⟨pvs, a, Rows.mono b hl, fun i x p hx hp => (c i x p hx hp).mono hl⟩
theorem bs_congr {ps qs : List PD} (h : ∀ i, keyAt ps i = keyAt qs i) (who : ByteArray) : ∀ f i j, bs ps who f i j = bs qs who f i j
  | 0, _, _ => rfl
  | f + 1, i, j => by
    unfold bs
    rw [h, bs_congr h who f, bs_congr h who f]
theorem bsI_congr {ps qs : List PD} (h : ∀ i, keyAt ps i = keyAt qs i) (hl : ps.length = qs.length) (who : ByteArray) : bsI ps who = bsI qs who := by
  unfold bsI
  rw [hl]
  exact bs_congr h who _ _ _
theorem known_at {ps : List PD} {who : ByteArray} (h : knownB ps who = true) : ∃ p, ps[bsI ps who]? = some p ∧ p.key = who := by
  unfold knownB at h
  rw [Bool.and_eq_true, decide_eq_true_eq] at h
  refine ⟨_, List.getElem?_eq_getElem h.1, ?_⟩
  have := beqS_iff.1 h.2
  rwa [keyAt_some (List.getElem?_eq_getElem h.1)] at this
/-- A player gains a position. -/
def gainP (ps : List PD) (who pos : ByteArray) : List PD :=
  match ps[bsI ps who]? with
  | some p => ps.set (bsI ps who) { p with pos := gainL p.pos pos }
  | none => ps
theorem gainP_some {ps : List PD} {who pos : ByteArray} {p : PD} (h : ps[bsI ps who]? = some p) : gainP ps who pos = ps.set (bsI ps who) { p with pos := gainL p.pos pos } := by unfold gainP; rw [h]
theorem gainP_length (ps : List PD) (who pos : ByteArray) : (gainP ps who pos).length = ps.length := by
  unfold gainP
  split
  · rw [List.length_set]
  · rfl
theorem gainP_key (ps : List PD) (who pos : ByteArray) (i : Nat) : keyAt (gainP ps who pos) i = keyAt ps i := by
  unfold gainP
  split
  · rename_i p hp
    unfold keyAt
    rw [List.getElem?_set]
    split
    · rename_i h
      subst h
      have := (List.getElem?_eq_some_iff.1 hp).1
      rw [if_pos this, hp]; rfl
    · rfl
  · rfl
theorem gainP_pos {ps : List PD} {who pos : ByteArray} {M : Nat} (h : ∀ p ∈ ps, p.pos.length ≤ M) : ∀ p ∈ gainP ps who pos, p.pos.length ≤ M + 1 := by
  intro p hp
  unfold gainP at hp
  split at hp
  · rename_i q hq
    rcases List.mem_or_eq_of_mem_set hp with hp | rfl
    · have := h p hp; omega
    · have := h q (List.mem_of_getElem? hq)
      have := gainL_le q.pos pos
      show (gainL q.pos pos).length ≤ M + 1
      omega
  · have := h p hp; omega
/-- Is the window's end by the week, and are both its ends of one player and position? -/
def hitB (week : Int) (s0 s : SD) : Bool := decide (s.week ≤ week) && beqS s0.player s.player && beqS s0.club s.club
def growTo (ps : List PD) (ss : List SD) (L : Nat) (week : Int) : Nat → List PD
  | 0 => ps
  | k + 1 => if hitB week (stAt ss k) (stAt ss (L - 1 + k)) then gainP (growTo ps ss L week k) (stAt ss (L - 1 + k)).player (stAt ss (L - 1 + k)).club else growTo ps ss L week k
theorem growTo_length (ps : List PD) (ss : List SD) (L : Nat) (week : Int) : ∀ k, (growTo ps ss L week k).length = ps.length
  | 0 => rfl
  | k + 1 => by
    unfold growTo
    split
    · rw [gainP_length]; exact growTo_length ps ss L week k
    · exact growTo_length ps ss L week k
theorem growTo_key (ps : List PD) (ss : List SD) (L : Nat) (week : Int) (i : Nat) : ∀ k, keyAt (growTo ps ss L week k) i = keyAt ps i
  | 0 => rfl
  | k + 1 => by
    unfold growTo
    split
    · rw [gainP_key]; exact growTo_key ps ss L week i k
    · exact growTo_key ps ss L week i k
theorem growTo_pos {ps : List PD} {M : Nat} (h : ∀ p ∈ ps, p.pos.length ≤ M) (ss : List SD) (L : Nat) (week : Int) : ∀ k, ∀ p ∈ growTo ps ss L week k, p.pos.length ≤ M + k
  | 0 => h
  | k + 1 => by
    unfold growTo
    split
    · exact gainP_pos (growTo_pos h ss L week k)
    · intro p hp
      have := growTo_pos h ss L week k p hp
      omega
def growE (ps : List PD) (ss : List SD) (least week : Int) : Int := firstE [chkAp ps ss, unlessE (betwB least 1 60) 1, unlessE (betwB week 1 60) 1]
/-- All that Grown answers. -/
def growAll (ps : List PD) (ss : List SD) (least week : Int) : List PD := growTo ps ss least.toNat week (ss.length - (least.toNat - 1))
theorem growAll_nil (ss : List SD) (least week : Int) : growAll [] ss least week = [] := List.eq_nil_of_length_eq_zero (growTo_length _ _ _ _ _)
def overB (p : PD) : Bool := decide (10 < p.pos.length)
def growR (ps : List PD) (ss : List SD) (least week : Int) : List PD × Int :=
  if growE ps ss least week = 0 then (if (growAll ps ss least week).any overB then ([], 12) else (growAll ps ss least week, 0)) else ([], growE ps ss least week)
theorem plays_nil (w : World) (lo : Nat) : Plays w lo (.slice none 0 0) [] := OwnPs.plays (ps := []) ⟨[], rfl, World.ownsRow_nil _ _ _ _, by simp⟩ (by simp)
/-- A pair of players and an error. -/
def MadePE (r : List PD × Int) (w : World) (e : Ending) (w' : World) : Prop := ∃ v, e = .returned (.tuple #[v, .int .i64 r.2]) ∧ Plays w' w.heap.size v r.1 ∧ Below w.heap.size w w'
theorem ap_cells (w : World) (s s0 : SD) (j : Nat) :
    ((w.alloc (.cells #[.string s.player, .string s.club, .int .i64 s.week] 132)).alloc (.cells #[.string s0.player, .string s0.club, .int .i64 s0.week] 132)).drew.cell? ⟨w.heap.size, j, none⟩ = (#[.string s.player, .string s.club, .int .i64 s.week] : Array Value)[j]? ∧
    ((w.alloc (.cells #[.string s.player, .string s.club, .int .i64 s.week] 132)).alloc (.cells #[.string s0.player, .string s0.club, .int .i64 s0.week] 132)).drew.cell? ⟨w.heap.size + 1, j, none⟩ = (#[.string s0.player, .string s0.club, .int .i64 s0.week] : Array Value)[j]? := by
  constructor
  · exact cell_of_row _ _ _ _ _ _ ((heap_alloc_old _ _ (by simp)).trans (heap_alloc_new w _))
  · have h := heap_alloc_new (w.alloc (.cells #[.string s.player, .string s.club, .int .i64 s.week] 132)) (.cells #[.string s0.player, .string s0.club, .int .i64 s0.week] 132)
    have e : (w.alloc (.cells #[.string s.player, .string s.club, .int .i64 s.week] 132)).heap.size = w.heap.size + 1 := by simp
    rw [e] at h
    exact cell_of_row _ _ _ _ _ _ h
/-- The state of the first loop. -/
def Up (w0 w2 : World) (ps : List PD) (ss : List SD) (L : Nat) (week : Int) (base lo g k : Nat) : Prop :=
  ∃ qvs, Cln w2 base lo g ps.length (growTo ps ss L week k) qvs ∧ Below base w0 w2
set_option maxRecDepth 100000 in
set_option maxHeartbeats 8000000 in
theorem grown_calls (lo lo' : Nat) (pv v : Value) (ps : List PD) (ss : List SD) (least week : Int) (w : World) (hp : Plays w lo' pv ps) (hps : ∀ p ∈ ps, SmallP p) (hpn : ps.length ≤ 1000000) (hG : Glob w) (hS : Aps w lo v ss) (hss : ∀ s ∈ ss, OkS s) (hsn : ss.length ≤ 100) (hpos : ∀ p ∈ ps, p.pos.length ≤ 100)
    (hl0 : -1000 ≤ least ∧ least ≤ 1000) :
    Calls Tryz.prog 48 #[pv, v, .int .i64 least, .int .i64 week] w (MadePE (growR ps ss least week) w) := by
  have HR := Lib.hid (show growR ps ss least week = if growE ps ss least week = 0 then (if (growAll ps ss least week).any overB then ([], 12) else (growAll ps ss least week, 0)) else ([], growE ps ss least week) from rfl)
  have HE := Lib.hid (show growE ps ss least week = firstE [chkAp ps ss, unlessE (betwB least 1 60) 1, unlessE (betwB week 1 60) 1] from rfl)
  generalize growE ps ss least week = E at HE HR ⊢
  generalize growR ps ss least week = R at HR ⊢
  have Hp := Lib.hid hp
  have HS := Lib.hid hS
  have HC := Lib.hid (checkAppears_calls lo lo' pv v ps ss w hp hps hpn hG hS hss (by omega))
  obtain ⟨pa, pc, rfl⟩ := plays_shape hp
  obtain ⟨sa, sc, rfl⟩ := aps_shape hS
  have Hss := Lib.hid hss
  have Hps := Lib.hid hps
  have Hpos := Lib.hid hpos
  clear hp hS hG hss hps hpos
  go_enter Tryz.func48, Tryz.ntmps48
  go_wp2_with fail
  refine HC.out.mono ?_
  rintro e w1 ⟨rfl, hb1⟩
  clear HC
  go_wp2_with fail
  refine (between_calls least 1 60 w1).mono ?_
  rintro e w1' ⟨rfl, rfl⟩
  go_wp2_with fail
  refine (unless_calls (betwB least 1 60) 1 w1).mono ?_
  rintro e w1' ⟨rfl, rfl⟩
  go_wp2_with fail
  refine (week_calls week w1).mono ?_
  rintro e w1' ⟨rfl, rfl⟩
  go_wp2_with fail
  refine (unless_calls (betwB week 1 60) 1 w1).mono ?_
  rintro e w1' ⟨rfl, rfl⟩
  go_wp2_with fail
  refine (orE_calls _ 0 3 [chkAp ps ss, unlessE (betwB least 1 60) 1, unlessE (betwB week 1 60) 1] _ (by simp) (by exact nums3 _ _ _ _ _)).mono ?_
  rintro e w1' ⟨rfl, rfl⟩
  rw [← HE.out]
  have hb2 := below_step hb1 (below_alloc w1 (.cells #[.int .i64 (chkAp ps ss), .int .i64 (unlessE (betwB least 1 60) 1), .int .i64 (unlessE (betwB week 1 60) 1)] 32))
  generalize w1.alloc (.cells #[.int .i64 (chkAp ps ss), .int .i64 (unlessE (betwB least 1 60) 1), .int .i64 (unlessE (betwB week 1 60) 1)] 32) = W at hb2 ⊢
  clear hb1
  by_cases hz : E = 0
  · have e1 : (E != 0) = false := by simp [hz]
    have hall := firstE_all (HE.out.symm.trans hz)
    have hap : chkAp ps ss = 0 := hall _ (by simp)
    have hle : unlessE (betwB least 1 60) 1 = 0 := hall _ (by simp)
    have hle2 : 1 ≤ least ∧ least ≤ 60 := by
      unfold unlessE betwB at hle
      split at hle
      · rename_i h; simpa using h
      · cases hle
    obtain ⟨L, rfl⟩ : ∃ L : Nat, least = (L : Int) := ⟨least.toNat, by omega⟩
    have hL : 1 ≤ L ∧ L ≤ 60 := by omega
    have hkn : ∀ (i : Nat) (s : SD), ss[i]? = some s → ∃ p, ps[bsI ps s.player]? = some p := fun i s hs => by
      have h1 := eachE_all (firstE_all hap (eachE ss.length 2000 (apF ps ss)) (by simp)) i (List.getElem?_eq_some_iff.1 hs).1
      have h2 := firstE_all h1 (unlessE (knownB ps (stAt ss i).player) 8) (by simp)
      rw [stAt_some hs] at h2
      unfold unlessE at h2
      split at h2
      · rename_i h
        obtain ⟨p, hp, _⟩ := known_at h
        exact ⟨p, hp⟩
      · cases h2
    have Hkn := Lib.hid hkn
    have Hz := Lib.hid hz
    have HW := Lib.hid hb2
    have hWs := hb2.size
    have HSW := Lib.hid (HS.out.below hb2)
    clear hz hall hap hle hle2 hkn hb2 hl0
    go_wp2_with fail
    refine (cloneP_calls lo' _ ps W (Hp.out.below HW.out)).mono ?_
    rintro e w3 ⟨v', rfl, hb3, ⟨rfl, rfl⟩ | ⟨g, cap, pvs, rfl, hg, hcp, hC⟩⟩
    · have hs0 : ss = [] := by
        cases ss with
        | nil => rfl
        | cons s ss =>
          obtain ⟨p, hp⟩ := Hkn.out 0 s rfl
          simp at hp
      subst hs0
      have hbw := below_step HW.out hb3
      have hr : R = ([], 0) := by rw [HR.out, if_pos Hz.out, growAll_nil]; rfl
      have HRr := Lib.hid hr
      clear hr
      go_wp2_with fail
      refine wp_loop_rounds 1 ?_
      rw [rounds_succ]
      go_wp2_with fail
      refine wp_loop_rounds 1 ?_
      rw [rounds_succ]
      go_wp2_with fail
      go_ret2
      rw [HRr.out]
      exact ⟨_, rfl, plays_nil _ _, hbw⟩
    · have HC := Lib.hid hC
      have Hb3 := Lib.hid hb3
      have hW3 := hb3.size
      clear hC hb3
      have hGl := Lib.hid (fun k => growTo_length ps ss L week k)
      go_wp2_with fail
      go_loopw [12] (fun i wr => ∃ (I k : Nat), i = .int .i64 (I : Int) ∧ I + 1 = L + k ∧ k ≤ 100 ∧ (k = 0 ∨ I ≤ ss.length) ∧ Hid (Up W wr ps ss L week W.heap.size lo' g k) ∧ w3.heap.size ≤ wr.heap.size) (fun i _ => 200 - (intOf i).toNat)
      case atStart => exact ⟨L - 1, 0, by go_num, by omega, by omega, .inl rfl, Lib.hid ⟨pvs, HC.out, Hb3.out⟩, Nat.le_refl _⟩
      case round =>
        obtain ⟨I, k, rfl, hIk, hk, hor, HU, hsz⟩ := hrel
        by_cases hlt : I < ss.length
        · have hkl : k < ss.length := by omega
          obtain ⟨s, hs⟩ : ∃ s, ss[I]? = some s := ⟨_, List.getElem?_eq_getElem hlt⟩
          obtain ⟨s0, hs0⟩ : ∃ s, ss[k]? = some s := ⟨_, List.getElem?_eq_getElem hkl⟩
          have hstep : growTo ps ss L week (k + 1) = if hitB week s0 s then gainP (growTo ps ss L week k) s.player s.club else growTo ps ss L week k := by
            rw [growTo, stAt_some hs0, show L - 1 + k = I by omega, stAt_some hs]
          obtain ⟨qvs, hC, hbW⟩ := HU.out
          have hA := HSW.out.below hbW
          rcases aps_at hA with ⟨_, rfl⟩ | ⟨ga, oa, ca, e, _, hgal, _, hac⟩
          · simp at hlt
          · simp only [Value.slice.injEq, true_and] at e
            obtain ⟨rfl, rfl⟩ := e
            obtain ⟨a0, a1, a2⟩ := hac I s hs
            obtain ⟨b0, b1, b2⟩ := hac k s0 hs0
            have Hs := Lib.hid hs
            have Hst := Lib.hid hstep
            have HCr := Lib.hid hC
            have Hbr := Lib.hid hbW
            clear hs hs0 hstep hC hbW hA hac HU HC
            have x1 : IntKind.i64.wrap ((I : Int) - (L : Int)) = (k : Int) - 1 := by rw [IntWalk.i64_in _ (by omega)]; omega
            have x2 : IntKind.i64.wrap ((k : Int) - 1 + 1) = (k : Int) := by rw [IntWalk.i64_in _ (by omega)]; omega
            go_upto_region 8 with fail
            go_cut [13, 14] from 35 to 75 (fun p q wc => ∃ xa xb, p = .pointer (some ⟨xa, 0, none⟩) ∧ q = .pointer (some ⟨xb, 0, none⟩) ∧ wc.cell? ⟨xa, 0, none⟩ = some (.string s.player) ∧ wc.cell? ⟨xa, 1, none⟩ = some (.string s.club) ∧ wc.cell? ⟨xa, 2, none⟩ = some (.int .i64 s.week) ∧ wc.cell? ⟨xb, 0, none⟩ = some (.string s0.player) ∧ wc.cell? ⟨xb, 1, none⟩ = some (.string s0.club) ∧ Below wr.heap.size wr wc)
            case first =>
              have K1 := ap_cells wr s s0
              have K2 := ap_cells wr s0 s
              have HK1 := Lib.hid K1
              have HK2 := Lib.hid K2
              clear K1 K2
              go_region
              all_goals (go_wp2_with fail; go_meet)
              case rel => exact ⟨_, _, rfl, rfl, (HK1.out 0).1, (HK1.out 1).1, (HK1.out 2).1, (HK1.out 0).2, (HK1.out 1).2, (below2 wr _ _).drew⟩
              case rel => exact ⟨_, _, rfl, rfl, (HK2.out 0).2, (HK2.out 1).2, (HK2.out 2).2, (HK2.out 0).1, (HK2.out 1).1, (below2 wr _ _).drew⟩
            case rest =>
              obtain ⟨xa, xb, rfl, rfl, d0, d1, d2, f0, f1, hbc⟩ := hcut
              have hCc := HCr.out.below hbc
              have hsc := hbc.size
              have hBc := Hbr.out.trans (hbc.mono (by omega))
              clear a0 a1 a2 b0 b1 b2 x1 x2 hbc HCr Hbr
              have HCc := Lib.hid hCc
              have HBc := Lib.hid hBc
              have Hsame : hitB week s0 s = false → Hid (Up W wc ps ss L week W.heap.size lo' g (k + 1)) := fun h => Lib.hid ⟨qvs, by rw [Hst.out, h]; exact HCc.out, HBc.out⟩
              have HSame := Lib.hid Hsame
              clear hCc hBc Hsame
              by_cases h1 : s.week ≤ week
              · by_cases h2 : beqS s0.player s.player = true
                · have e2 : (s0.player.toList == s.player.toList) = true := h2
                  by_cases h3 : beqS s0.club s.club = true
                  · have e3 : (s0.club.toList == s.club.toList) = true := h3
                    have hhit : hitB week s0 s = true := by unfold hitB; rw [h2, h3]; simp [h1]
                    obtain ⟨p0, hp0⟩ := Hkn.out I s Hs.out
                    have hbI : bsI (growTo ps ss L week k) s.player = bsI ps s.player := bsI_congr (fun i => growTo_key ps ss L week i k) (hGl.out k) _
                    have hlt2 : bsI ps s.player < (growTo ps ss L week k).length := by rw [hGl.out k]; exact (List.getElem?_eq_some_iff.1 hp0).1
                    obtain ⟨p1, hp1⟩ : ∃ p1, (growTo ps ss L week k)[bsI ps s.player]? = some p1 := ⟨_, List.getElem?_eq_getElem hlt2⟩
                    have C := gain_calls W.heap.size lo' g cap (bsI ps s.player) (growTo ps ss L week k) qvs p1 s.player s.club wc (by rw [hGl.out k]; exact HCc.out) (by omega) hg (by rw [hGl.out k]; exact hcp) hbI hp1 (fun p hp => by have := growTo_pos Hpos.out ss L week k p hp; omega) (by rw [hGl.out k]; omega)
                    rw [hGl.out k] at C
                    have Hg : growTo ps ss L week (k + 1) = (growTo ps ss L week k).set (bsI ps s.player) { p1 with pos := gainL p1.pos s.club } := by
                      rw [Hst.out, hhit, if_pos rfl, gainP_some (by rw [hbI]; exact hp1), hbI]
                    have HC := Lib.hid C
                    have HHg := Lib.hid Hg
                    clear C Hg hp1 hlt2 hbI hp0 hhit
                    go_wp2_with fail
                    refine HC.out.mono ?_
                    rintro e w4 ⟨rfl, hb4, pvs', hC4⟩
                    have HU4 : Hid (Up W w4 ps ss L week W.heap.size lo' g (k + 1)) := Lib.hid ⟨pvs', by rw [HHg.out]; exact hC4, HBc.out.trans hb4⟩
                    have hs4 := hb4.size
                    clear hC4 hb4
                    go_wp2_with fail
                    go_roundw
                    case rel => exact ⟨I + 1, k + 1, by go_num, by omega, by omega, .inr (by omega), HU4, by omega⟩
                    case measure => simp [intOf]; omega
                  · have e3 : (s0.club.toList == s.club.toList) = false := by simpa [beqS] using h3
                    have HU4 := HSame.out (by unfold hitB; rw [show beqS s0.club s.club = false from e3, Bool.and_false])
                    clear h3
                    go_wp2_with fail
                    go_roundw
                    case rel => exact ⟨I + 1, k + 1, by go_num, by omega, by omega, .inr (by omega), HU4, by omega⟩
                    case measure => simp [intOf]; omega
                · have e2 : (s0.player.toList == s.player.toList) = false := by simpa [beqS] using h2
                  have HU4 := HSame.out (by unfold hitB; rw [show beqS s0.player s.player = false from e2, Bool.and_false, Bool.false_and])
                  clear h2
                  go_wp2_with fail
                  go_roundw
                  case rel => exact ⟨I + 1, k + 1, by go_num, by omega, by omega, .inr (by omega), HU4, by omega⟩
                  case measure => simp [intOf]; omega
              · have HU4 := HSame.out (by unfold hitB; simp [h1])
                go_wp2_with fail
                go_roundw
                case rel => exact ⟨I + 1, k + 1, by go_num, by omega, by omega, .inr (by omega), HU4, by omega⟩
                case measure => simp [intOf]; omega
        · have hkE : k = ss.length - (L - 1) := by omega
          have hGall : growAll ps ss (L : Int) week = growTo ps ss L week k := by unfold growAll; rw [Int.toNat_natCast, hkE]
          obtain ⟨qvs, hC, hbW⟩ := HU.out
          rw [hGall] at HR
          have hGk : (growTo ps ss L week k).length = ps.length := hGl.out k
          have hposG := fun p hp => growTo_pos Hpos.out ss L week k p hp
          have HposG := Lib.hid hposG
          have HGk := Lib.hid hGk
          have HCr := Lib.hid hC
          have hgl := hC.rows.lt
          clear hkE hGall hC HU HC hposG hGk
          generalize growTo ps ss L week k = G at HR HCr HposG HGk
          go_wp2_with fail
          go_loopw [78] (fun i wq => ∃ (j : Nat), i = .int .i64 (j : Int) ∧ j ≤ ps.length ∧ Hid (∀ q p, q < j → G[q]? = some p → overB p = false) ∧ Hid (Cln wq W.heap.size lo' g ps.length G qvs) ∧ Below W.heap.size W wq) (fun i _ => ps.length - (intOf i).toNat)
          case atStart => exact ⟨0, rfl, by omega, Lib.hid (fun q p h => by omega), HCr, hbW⟩
          case round =>
            obtain ⟨j, rfl, hj, Hno, HCj, hbj⟩ := hrel
            clear HCr hbW hgl
            by_cases hltj : j < ps.length
            · obtain ⟨p, hpj⟩ : ∃ p, G[j]? = some p := ⟨_, List.getElem?_eq_getElem (by rw [HGk.out]; exact hltj)⟩
              obtain ⟨x, hx, c0, c1, c2⟩ := HCj.out.get hpj
              obtain ⟨oa', oc', hsh⟩ := owns_shape (HCj.out.own j x p hltj hx hpj)
              subst hsh
              have hgl := HCj.out.rows.lt
              have Hpj := Lib.hid hpj
              have hpl := HposG.out p (List.mem_of_getElem? hpj)
              have hb5 := (Below.refl wr.heap.size wr).alloc (Nat.le_refl _) (.cells #[.string p.key, .string p.name, .slice oa' p.pos.length oc'] 86)
              have HC5 := Lib.hid (HCj.out.below hb5)
              have hbj5 := hbj.trans (hb5.mono hbj.size)
              clear hx hpj hb5
              by_cases h10 : 10 < p.pos.length
              · have hR : R = ([], 12) := by
                  rw [HR.out, if_pos Hz.out, if_pos (List.any_eq_true.2 ⟨p, List.mem_of_getElem? Hpj.out, by simpa [overB] using h10⟩)]
                have HRr := Lib.hid hR
                have hbw := below_step HW.out hbj5
                clear hR
                go_wp2_with fail
                go_ret2
                rw [HRr.out]
                exact ⟨.slice none 0 0, rfl, plays_nil _ _, hbw⟩
              · have Hno' : Hid (∀ q p, q < j + 1 → G[q]? = some p → overB p = false) := Lib.hid fun q p' hq hp' => by
                  rcases Nat.lt_succ_iff_lt_or_eq.1 hq with h | rfl
                  · exact Hno.out q p' h hp'
                  · rw [Hpj.out] at hp'; cases hp'; simpa [overB] using h10
                go_wp2_with fail
                go_roundw
                case rel => exact ⟨j + 1, by go_num, by omega, Hno', HC5, hbj5⟩
                case measure => simp [intOf]; omega
            · have hR : R = (G, 0) := by
                rw [HR.out, if_pos Hz.out, if_neg]
                intro h
                obtain ⟨p, hp, ho⟩ := List.any_eq_true.1 h
                obtain ⟨q, hq⟩ := List.getElem?_of_mem hp
                have := Hno.out q p (by have := (List.getElem?_eq_some_iff.1 hq).1; rw [HGk.out] at this; omega) hq
                rw [this] at ho
                cases ho
              have HRr := Lib.hid hR
              have hbw := below_step HW.out hbj
              have hPl := Cln.plays (cap := cap) (show Cln wr W.heap.size lo' g G.length G qvs by rw [HGk.out]; exact HCj.out) hg (by rw [HGk.out]; exact hpn) (fun p hp => by have := HposG.out p hp; omega) (by rw [HGk.out]; exact hcp)
              rw [HGk.out] at hPl
              have HPl := Lib.hid (Plays.mono hPl hWs)
              clear hR hPl
              go_wp2_with fail
              go_ret2
              rw [HRr.out]
              exact ⟨_, rfl, HPl.out, hbw⟩
  · have e1 : (E != 0) = true := by simp [hz]
    have Hz := Lib.hid hz
    clear hz
    go_wp2_with fail
    go_ret2
    refine ⟨.slice none 0 0, ?_, ?_, hb2⟩
    · rw [HR.out, if_neg Hz.out]; rfl
    · rw [HR.out, if_neg Hz.out]; exact plays_nil _ _
end Go.Proofs.YtmjkbmkjnbpgeaaGreatDoor
