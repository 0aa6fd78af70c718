/- ClubIn, those and Squad. Squad. -/
import Derived.Test.YtmjkbmkjnbpgeaaGreatDoorBg
namespace Go.Proofs.YtmjkbmkjnbpgeaaGreatDoor
open Go.RowKit

theorem nums3 (w : World) (T : Nat) (a b c : Int) : NumsAt (w.alloc (.cells #[.int .i64 a, .int .i64 b, .int .i64 c] T)) w.heap.size 0 [a, b, c] := by
  intro i x hx
  rw [World.cell?_alloc_at _ _ _ _ rfl]
  match i, hx with
  | 0, hx => simp at hx; subst hx; rfl
  | 1, hx => simp at hx; subst hx; rfl
  | 2, hx => simp at hx; subst hx; rfl

def clubE (ps : List PD) (ss : List SD) (who : ByteArray) (week : Int) : Int := firstE [chkSt ps ss, unlessE (knownB ps who) 8, unlessE (betwB week 1 60) 1]
def clubR (ps : List PD) (ss : List SD) (who : ByteArray) (week : Int) : ByteArray := if clubE ps ss who week = 0 then clubB ss who week else ⟨#[]⟩
set_option maxRecDepth 100000 in
set_option maxHeartbeats 1000000 in
theorem clubInX_calls (lo lo' : Nat) (pv v : Value) (ps : List PD) (ss : List SD) (who : ByteArray) (week : Int) (w : World) (hp : Plays w lo' pv ps) (hps : ∀ p ∈ ps, SmallP p) (hpn : ps.length ≤ 1000000) (hG : Glob w) (hS : Sts w lo v ss) (hss : ∀ s ∈ ss, OkS s) (hsn : ss.length ≤ 1000000) :
    Calls Tryz.prog 12 #[pv, v, .string who, .int .i64 week] w fun e w' => e = .returned (.tuple #[.string (clubR ps ss who week), .int .i64 (clubE ps ss who week)]) ∧ Below w.heap.size w w' := by
  obtain ⟨pa, pc, rfl⟩ := plays_shape hp
  obtain ⟨sa, sc, rfl⟩ := sts_shape hS
  have HE := Lib.hid (show clubE ps ss who week = firstE [chkSt ps ss, unlessE (knownB ps who) 8, unlessE (betwB week 1 60) 1] from rfl)
  have HR := Lib.hid (show clubR ps ss who week = if clubE ps ss who week = 0 then clubB ss who week else ⟨#[]⟩ from rfl)
  generalize clubE ps ss who week = E at HE HR
  go_enter Tryz.func12, Tryz.ntmps12
  go_wp2_with fail
  refine (checkStints_calls lo lo' _ _ ps ss w hp hps hpn hG hS hss hsn).mono ?_
  rintro e w1 ⟨rfl, hb1⟩
  go_wp2_with fail
  refine (known_calls lo' who _ ps w1 (hp.below hb1)).mono ?_
  rintro e w2 ⟨rfl, hb2⟩
  have hS2 := (hS.below hb1).below hb2
  have hb12 := below_step hb1 hb2
  clear hp hS hb1 hb2
  go_wp2_with fail
  refine (unless_calls _ _ _).mono ?_
  rintro e w' ⟨rfl, rfl⟩
  go_wp2_with fail
  refine (week_calls _ _).mono ?_
  rintro e w' ⟨rfl, rfl⟩
  go_wp2_with fail
  refine (unless_calls _ _ _).mono ?_
  rintro e w' ⟨rfl, rfl⟩
  go_wp2_with fail
  refine (orE_calls _ 0 3 [chkSt ps ss, unlessE (knownB ps who) 8, unlessE (betwB week 1 60) 1] _ (by simp) (by exact nums3 _ _ _ _ _)).mono ?_
  rintro e w3 ⟨rfl, hw3⟩
  rw [← HE.out]
  have hS3 := hS2.below (below_alloc w2 (.cells #[.int .i64 (chkSt ps ss), .int .i64 (unlessE (knownB ps who) 8), .int .i64 (unlessE (betwB week 1 60) 1)] 32))
  have hb3 := below_step hb12 (below_alloc w2 (.cells #[.int .i64 (chkSt ps ss), .int .i64 (unlessE (knownB ps who) 8), .int .i64 (unlessE (betwB week 1 60) 1)] 32))
  rw [hw3] at hS3 hb3
  clear hw3 hS2 hb12
  by_cases hz : E = 0
  · have e1 : (E != 0) = false := by simp [hz]
    have Hz := Lib.hid hz
    clear hz
    go_wp2_with fail
    refine (clubIn_calls lo who week _ ss w3 hS3 hsn).mono ?_
    rintro e w4 ⟨rfl, hb4⟩
    go_wp2_with fail
    go_ret2
    refine ⟨?_, below_step hb3 hb4⟩
    rw [HR.out, if_pos Hz.out, Hz.out]
    rfl
  · have e1 : (E != 0) = true := by simp [hz]
    have Hz := Lib.hid hz
    clear hz
    go_wp2_with fail
    go_ret2
    refine ⟨?_, hb3⟩
    rw [HR.out, if_neg Hz.out]
    rfl

/-- The keys of those who are meant. -/
def thoseL (f : PD → Bool) (ps : List PD) : List ByteArray := (ps.filter f).map PD.key
theorem thoseL_snoc (f : PD → Bool) {ps : List PD} {k : Nat} {p : PD} (hk : ps[k]? = some p) : thoseL f (ps.take (k + 1)) = thoseL f (ps.take k) ++ (if f p then [p.key] else []) := by
  have hlt : k < ps.length := (List.getElem?_eq_some_iff.1 hk).1
  have e : ps.take (k + 1) = ps.take k ++ [p] := by
    rw [List.take_succ_eq_append_getElem hlt]
    have := (List.getElem?_eq_some_iff.1 hk).2
    rw [this]
  unfold thoseL
  rw [e, List.filter_append, List.map_append]
  cases hf : f p <;> simp [hf]
theorem thoseL_le (f : PD → Bool) (ps : List PD) : (thoseL f ps).length ≤ ps.length := by unfold thoseL; rw [List.length_map]; exact List.length_filter_le _ _

def MadeS (ks : List ByteArray) (w : World) (e : Ending) (w' : World) : Prop := ∃ v, OwnS w' w.heap.size v ks ∧ e = .returned v ∧ Below w.heap.size w w'

set_option maxRecDepth 100000 in
set_option maxHeartbeats 2000000 in
theorem those_calls (g : Nat) (caps : Array Value) (eg : ∀ args w, (callFunc g args).run Tryz.prog w = .ok (.enter g args) w) (f : PD → Bool) (lo : Nat) (v : Value) (ps : List PD) (w : World) (hp : Plays w lo v ps)
    (hf : ∀ (W : World) (i : Nat) (p : PD) (x : Value), ps[i]? = some p → Below w.heap.size w W → Strs W lo x p.pos → Calls Tryz.prog g (#[.agg #[.string p.key, .string p.name, x]] ++ caps) W (BoolIs (f p) W)) :
    Calls Tryz.prog 77 #[v, .func (.func g) #[] caps] w (MadeS (thoseL f ps) w) := by
  obtain ⟨i0, hi, hz0, hz1, hz2⟩ := info_parts info_str
  have Hf := Lib.hid hf
  clear hf
  rcases plays_at hp with ⟨rfl, rfl⟩ | ⟨gg, off, cap, rfl, hlo, hg, hn, hcell⟩
  · clear hp hi hz0 hz1 hz2
    go_enter Tryz.func77, Tryz.ntmps77
    go_wp2
    refine wp_loop_rounds 1 ?_
    rw [rounds_succ]
    go_wp2
    go_ret
    exact ⟨_, World.ownsRow_nil _ _ _ _, rfl, Below.refl _ _⟩
  · have Hc := Lib.hid hcell
    clear hp hcell
    go_enter Tryz.func77, Tryz.ntmps77
    go_wp2_with fail
    go_loopw [5, 10] (fun out i wr => ∃ k : Nat, k ≤ ps.length ∧ i = .int .i64 k ∧ OwnS wr w.heap.size out (thoseL f (ps.take k)) ∧ Below w.heap.size w wr) (fun _ i _ => ps.length - (intOf i).toNat)
    case atStart => exact ⟨0, Nat.zero_le _, rfl, World.ownsRow_nil _ _ _ _, Below.refl _ _⟩
    case round =>
      obtain ⟨k, hk, rfl, hown, hb⟩ := hrel
      by_cases hlt : k < ps.length
      · obtain ⟨p, hpk⟩ : ∃ p, ps[k]? = some p := ⟨ps[k], List.getElem?_eq_getElem hlt⟩
        obtain ⟨pv, h0, h1, h2, h3⟩ := Hc.out k p hpk
        have g0 := below_cell hb h0
        have g1 := below_cell hb h1
        have g2 := below_cell hb h2
        obtain ⟨qa, qc, rfl⟩ := strs_shape h3
        have Hs := Lib.hid (thoseL_snoc f hpk)
        have hle := Lib.hid (thoseL_le f (ps.take k))
        have Hpk := Lib.hid hpk
        have hbo := below_step hb (below_alloc wr (.cells #[.string p.key, .string p.name, .slice qa p.pos.length qc] 86))
        have h3' := (h3.below hb).below (below_alloc wr (.cells #[.string p.key, .string p.name, .slice qa p.pos.length qc] 86))
        clear hpk h0 h1 h2 h3
        go_wp2_with fail
        refine (Hf.out _ k p _ Hpk.out hbo h3').mono ?_
        rintro e w1 ⟨rfl, hb1⟩
        have hown1 : OwnS w1 w.heap.size u5 (thoseL f (ps.take k)) := (World.ownsRow.alloc hown (.cells #[.string p.key, .string p.name, .slice qa p.pos.length qc] 86)).kept (gb_below hb1 none) (by cases hv : Value.ownBlock _ <;> simp)
        have hbw1 := below_step hbo hb1
        have d0 := below_cell hb1 (show (wr.alloc (.cells #[.string p.key, .string p.name, .slice qa p.pos.length qc] 86)).cell? ⟨wr.heap.size, 0, none⟩ = some (.string p.key) by rw [World.cell?_alloc_at _ _ _ _ rfl]; rfl)
        clear h3' hbo hown g0 g1 g2
        cases hfp : f p
        · have Hs' := Lib.hid (show thoseL f (ps.take (k + 1)) = thoseL f (ps.take k) by rw [Hs.out, hfp]; simp)
          clear hfp
          go_wp2_with fail
          go_roundw
          case rel => exact ⟨k + 1, by omega, by go_num, by rw [Hs'.out]; exact hown1, hbw1⟩
          case measure => simp [intOf]; omega
        · have Hs' := Lib.hid (show thoseL f (ps.take (k + 1)) = thoseL f (ps.take k) ++ [p.key] by rw [Hs.out, hfp]; simp)
          have hl : (thoseL f (ps.take k)).length ≤ 1000000 := by have := hle.out; have := List.length_take_le k ps; omega
          clear hfp
          go_wp2_with (at_builtin; refine wpList_append_own _ rfl _ _ 35 rfl w.heap.size 9 i0 (.string ⟨#[]⟩) 1 16 Tryz.underlying35 hi hz0 hz1 hz2 rfl (by decide) _ _ _ rfl (World.ownsRow.alloc hown1 _) ⟨w1.heap.size, 0, none⟩ 1 1 [.string p.key] rfl rfl ?c1 ?c2 ?c3 ?c4 ?c5 ?_)
          case c1 => exact cell_one_new _ _ _
          case c2 => simp [Value.oneCell']
          case c3 => unfold maxLen; omega
          case c4 => omega
          case c5 => have := hbw1.size; simp; omega
          intro v' w2 hown2 hgrow _
          have hown2' : OwnS w2 w.heap.size v' (thoseL f (ps.take k) ++ [p.key]) := by unfold OwnS; simpa using hown2
          have hbw2 : Below w.heap.size w w2 := (below_step hbw1 (below_alloc w1 _)).grown hgrow (by have := hbw1.size; simp; omega) fun r hr => (own_block hown1 r hr).1
          clear hown2 hgrow
          go_wp2_with fail
          go_roundw
          case rel => exact ⟨k + 1, by omega, by go_num, by rw [Hs'.out]; exact hown2', hbw2⟩
          case measure => simp [intOf]; omega
      · obtain rfl : k = ps.length := by omega
        have hT := Lib.hid (List.take_length (l := ps))
        go_wp2_with fail
        go_ret
        exact ⟨_, by rw [hT.out] at hown; exact hown, rfl, hb⟩

set_option maxRecDepth 100000 in
set_option maxHeartbeats 1000000 in
theorem squad1_calls (cl ck cc lo : Nat) (k club : ByteArray) (week : Int) (x y : Value) (v : Value) (ss : List SD) (w : World) (hS : Sts w lo v ss) (hn : ss.length ≤ 1000000)
    (h1 : w.cell? ⟨cl, 0, none⟩ = some v) (h2 : w.cell? ⟨ck, 0, none⟩ = some (.int .i64 week)) (h3 : w.cell? ⟨cc, 0, none⟩ = some (.string club)) :
    Calls Tryz.prog 78 #[.agg #[.string k, x, y], .pointer (some ⟨cl, 0, none⟩), .pointer (some ⟨ck, 0, none⟩), .pointer (some ⟨cc, 0, none⟩)] w (BoolIs (beqS (clubB ss k week) club) w) := by
  obtain ⟨sa, sc, rfl⟩ := sts_shape hS
  obtain ⟨W, hW⟩ : ∃ W, W = w.alloc (.cells #[.string k, x, y] 86) := ⟨_, rfl⟩
  have hwW : Below w.heap.size w W := by rw [hW]; exact below_alloc w _
  have x0 : W.cell? ⟨w.heap.size, 0, none⟩ = some (.string k) := by rw [hW, World.cell?_alloc_at _ _ _ _ rfl]; rfl
  have c1 := below_cell hwW h1
  have c2 := below_cell hwW h2
  have c3 := below_cell hwW h3
  have hSW := hS.below hwW
  have HS := Lib.hid (show ∀ w', Below W.heap.size W w' → (Below W.heap.size W w' ∧ Sts w' lo (.slice sa ss.length sc) ss ∧ w'.cell? ⟨w.heap.size, 0, none⟩ = some (.string k) ∧ w'.cell? ⟨cl, 0, none⟩ = some (.slice sa ss.length sc) ∧ w'.cell? ⟨ck, 0, none⟩ = some (.int .i64 week) ∧ w'.cell? ⟨cc, 0, none⟩ = some (.string club)) from fun w' hb => ⟨hb, hSW.below hb, below_cell hb x0, below_cell hb c1, below_cell hb c2, below_cell hb c3⟩)
  have hb0 := (Below.refl W.heap.size W).drew
  clear x0 c1 c2 c3 hSW hS h1 h2 h3
  go_enter Tryz.func78, Tryz.ntmps78
  go_upto_region 1 with fail
  rw [← hW]
  clear hW
  refine wp_region_held_drew (S := fun w' => Below W.heap.size W w' ∧ Sts w' lo (.slice sa ss.length sc) ss ∧ w'.cell? ⟨w.heap.size, 0, none⟩ = some (.string k) ∧ w'.cell? ⟨cl, 0, none⟩ = some (.slice sa ss.length sc) ∧ w'.cell? ⟨ck, 0, none⟩ = some (.int .i64 week) ∧ w'.cell? ⟨cc, 0, none⟩ = some (.string club)) (by kernel_rfl) ?_ (fun hHeld => ?_)
  · (exact HS.out _ (by first | assumption | exact hHeld.1 | exact below_step hHeld.1 (by assumption) | exact below_step hHeld.1 (below_alloc _ _)))
  refine take_at 0 6 (v := ?_) rfl rfl (by kernel_rfl) (by kernel_rfl) (by kernel_rfl) (fun _ _ _ h => h) (by rfl) ?y0 (by assumption) ?r0
  case y0 =>
    intro w hSw
    try dsimp only at hSw
    go_simp
    try with_reducible rfl
  simp only [List.set_cons_zero, List.set_cons_succ]
  refine take_at 1 7 (v := ?_) rfl rfl (by kernel_rfl) (by kernel_rfl) (by kernel_rfl) (fun _ _ _ h => h) (by rfl) ?y1 (by assumption) ?r1
  case y1 =>
    intro w hSw
    try dsimp only at hSw
    go_simp
    try with_reducible rfl
  simp only [List.set_cons_zero, List.set_cons_succ]
  refine take_at 2 8 (v := ?_) rfl rfl (by kernel_rfl) (by kernel_rfl) (by kernel_rfl) (fun _ _ _ h => h) (by rfl) ?y2 (by assumption) ?r2
  case y2 =>
    intro w hSw
    try dsimp only at hSw
    go_simp
    try with_reducible rfl
  simp only [List.set_cons_zero, List.set_cons_succ]
  refine take_at 3 9 (v := ?_) rfl rfl (by kernel_rfl) (by kernel_rfl) (by kernel_rfl) (fun _ _ _ h => h) (by rfl) ?y3 (by assumption) ?r3
  case y3 =>
    intro w hSw
    try dsimp only at hSw
    go_simp
    try with_reducible rfl
  simp only [List.set_cons_zero, List.set_cons_succ]
  refine take_at 5 11 (v := ?_) rfl rfl (by kernel_rfl) (by kernel_rfl) (by kernel_rfl) (fun _ _ _ h => h) (by rfl) ?y5 (by assumption) ?r5
  case y5 =>
    intro w hSw
    try dsimp only at hSw
    go_simp
    try with_reducible rfl
  simp only [List.set_cons_zero, List.set_cons_succ]
  refine run_at 4 rfl (by kernel_rfl) (by rfl) (fun K hK => ?_)
  go_simp
  refine (clubIn_calls lo k week _ ss _ (by exact hHeld.2.1) hn).mono ?_
  rintro e w' ⟨rfl, hb⟩
  go_wp2_with fail
  refine hK.out _ _ ?_ (fun hHeld => ?_)
  · (exact HS.out _ (by first | assumption | exact hHeld.1 | exact below_step hHeld.1 (by assumption) | exact below_step hHeld.1 (below_alloc _ _)))
  clear hK K
  try simp only [Act.put, List.setIfInBounds_toArray, List.set_cons_zero, List.set_cons_succ]
  refine take_at 6 12 (v := ?_) rfl rfl (by kernel_rfl) (by kernel_rfl) (by kernel_rfl) (fun _ _ _ h => h) (by rfl) ?y6 (by assumption) ?r6
  case y6 =>
    intro w hSw
    try dsimp only at hSw
    go_simp
    try with_reducible rfl
  simp only [List.set_cons_zero, List.set_cons_succ]
  refine take_at 7 5 (v := ?_) rfl rfl (by kernel_rfl) (by kernel_rfl) (by kernel_rfl) (fun _ _ _ h => h) (by rfl) ?y7 (by assumption) ?r7
  case y7 =>
    intro w hSw
    try dsimp only at hSw
    go_simp
    try with_reducible rfl
  simp only [List.set_cons_zero, List.set_cons_succ]
  refine wpAnyH_done (by kernel_rfl) ?_ _
  go_wp2_with fail
  go_ret
  exact ⟨rfl, below_step hwW hHeld.1⟩
end Go.Proofs.YtmjkbmkjnbpgeaaGreatDoor
namespace Go.Proofs.YtmjkbmkjnbpgeaaGreatDoor
open Go.RowKit

def squadE (ps : List PD) (ss : List SD) (club : ByteArray) (week : Int) : Int := firstE [chkSt ps ss, unlessE (keyB club) 5, unlessE (betwB week 1 60) 1]
def squadR (ps : List PD) (ss : List SD) (club : ByteArray) (week : Int) : List ByteArray := if squadE ps ss club week = 0 then thoseL (fun p => beqS (clubB ss p.key week) club) ps else []
def MadeSE (ks : List ByteArray) (x : Int) (w : World) (e : Ending) (w' : World) : Prop := ∃ v, OwnS w' w.heap.size v ks ∧ e = .returned (.tuple #[v, .int .i64 x]) ∧ Below w.heap.size w w'
set_option maxRecDepth 100000 in
set_option maxHeartbeats 2000000 in
theorem squad_calls (lo lo' : Nat) (pv v : Value) (ps : List PD) (ss : List SD) (club : ByteArray) (week : Int) (w : World) (hp : Plays w lo' pv ps) (hps : ∀ p ∈ ps, SmallP p) (hpn : ps.length ≤ 1000000) (hG : Glob w) (hS : Sts w lo v ss) (hss : ∀ s ∈ ss, OkS s) (hsn : ss.length ≤ 1000000) (hcl : club.size ≤ 1000000) :
    Calls Tryz.prog 13 #[pv, v, .string club, .int .i64 week] w (MadeSE (squadR ps ss club week) (squadE ps ss club week) w) := by
  obtain ⟨pa, pc, rfl⟩ := plays_shape hp
  obtain ⟨sa, sc, rfl⟩ := sts_shape hS
  have HE := Lib.hid (show squadE ps ss club week = firstE [chkSt ps ss, unlessE (keyB club) 5, unlessE (betwB week 1 60) 1] from rfl)
  have HR := Lib.hid (show squadR ps ss club week = if squadE ps ss club week = 0 then thoseL (fun p => beqS (clubB ss p.key week) club) ps else [] from rfl)
  generalize squadE ps ss club week = E at HE HR ⊢
  generalize squadR ps ss club week = R at HR ⊢
  obtain ⟨W, hW⟩ : ∃ W, W = ((w.alloc (.cells #[.slice sa ss.length sc] 28)).alloc (.cells #[.string club] 9)).alloc (.cells #[.int .i64 week] 3) := ⟨_, rfl⟩
  have hwW : Below w.heap.size w W := by rw [hW]; exact below_step (below_step (below_alloc w _) (below_alloc _ _)) (below_alloc _ _)
  have x0 : W.cell? ⟨w.heap.size, 0, none⟩ = some (.slice sa ss.length sc) := by rw [hW, World.cell?_alloc_past _ _ _ (by simp; omega), World.cell?_alloc_past _ _ _ (by simp), World.cell?_alloc_at _ _ _ _ rfl]; rfl
  have x1 : W.cell? ⟨w.heap.size + 1, 0, none⟩ = some (.string club) := by rw [hW, World.cell?_alloc_past _ _ _ (by simp), World.cell?_alloc_at _ _ _ _ (by simp)]; rfl
  have x2 : W.cell? ⟨w.heap.size + 2, 0, none⟩ = some (.int .i64 week) := by rw [hW, World.cell?_alloc_at _ _ _ _ (by simp)]; rfl
  have hPW := hp.below hwW
  have hSW := hS.below hwW
  have hGW := hG.below hwW
  have HS := Lib.hid (show ∀ w', Below W.heap.size W w' → (Below W.heap.size W w' ∧ Plays w' lo' (.slice pa ps.length pc) ps ∧ Sts w' lo (.slice sa ss.length sc) ss ∧ Glob w' ∧ w'.cell? ⟨w.heap.size, 0, none⟩ = some (.slice sa ss.length sc) ∧ w'.cell? ⟨w.heap.size + 1, 0, none⟩ = some (.string club) ∧ w'.cell? ⟨w.heap.size + 2, 0, none⟩ = some (.int .i64 week)) from fun w' hb => ⟨hb, hPW.below hb, hSW.below hb, hGW.below hb, below_cell hb x0, below_cell hb x1, below_cell hb x2⟩)
  have hb0 := (Below.refl W.heap.size W).drew
  have HN := Lib.hid hsn
  clear x0 x1 x2 hPW hSW hGW hS hp hG
  go_enter Tryz.func13, Tryz.ntmps13
  go_upto_region 1 with fail
  rw [← hW]
  clear hW
  refine wp_region_held_drew (S := fun w' => Below W.heap.size W w' ∧ Plays w' lo' (.slice pa ps.length pc) ps ∧ Sts w' lo (.slice sa ss.length sc) ss ∧ Glob w' ∧ w'.cell? ⟨w.heap.size, 0, none⟩ = some (.slice sa ss.length sc) ∧ w'.cell? ⟨w.heap.size + 1, 0, none⟩ = some (.string club) ∧ w'.cell? ⟨w.heap.size + 2, 0, none⟩ = some (.int .i64 week)) (by kernel_rfl) ?_ (fun hHeld => ?_)
  · (exact HS.out _ (by first | assumption | exact hHeld.1 | exact below_step hHeld.1 (by assumption) | exact below_step hHeld.1 (below_alloc _ _)))
  refine take_at 0 11 (v := ?_) rfl rfl (by kernel_rfl) (by kernel_rfl) (by kernel_rfl) (fun _ _ _ h => h) (by rfl) ?y0 (by assumption) ?r0
  case y0 =>
    intro w hSw
    try dsimp only at hSw
    go_simp
    try with_reducible rfl
  simp only [List.set_cons_zero, List.set_cons_succ]
  refine take_at 1 12 (v := ?_) rfl rfl (by kernel_rfl) (by kernel_rfl) (by kernel_rfl) (fun _ _ _ h => h) (by rfl) ?y1 (by assumption) ?r1
  case y1 =>
    intro w hSw
    try dsimp only at hSw
    go_simp
    try with_reducible rfl
  simp only [List.set_cons_zero, List.set_cons_succ]
  refine take_at 3 14 (v := ?_) rfl rfl (by kernel_rfl) (by kernel_rfl) (by kernel_rfl) (fun _ _ _ h => h) (by rfl) ?y3 (by assumption) ?r3
  case y3 =>
    intro w hSw
    try dsimp only at hSw
    go_simp
    try with_reducible rfl
  simp only [List.set_cons_zero, List.set_cons_succ]
  refine take_at 6 17 (v := ?_) rfl rfl (by kernel_rfl) (by kernel_rfl) (by kernel_rfl) (fun _ _ _ h => h) (by rfl) ?y6 (by assumption) ?r6
  case y6 =>
    intro w hSw
    try dsimp only at hSw
    go_simp
    try with_reducible rfl
  simp only [List.set_cons_zero, List.set_cons_succ]
  refine run_at 2 rfl (by kernel_rfl) (by rfl) (fun K hK => ?_)
  go_simp
  refine (checkStints_calls lo lo' _ _ ps ss _ (by exact hHeld.2.1) hps hpn (by exact hHeld.2.2.2.1) (by exact hHeld.2.2.1) hss hsn).mono ?_
  rintro e w' ⟨rfl, hb⟩
  go_wp2_with fail
  refine hK.out _ _ ?_ (fun hHeld => ?_)
  · (exact HS.out _ (by first | assumption | exact hHeld.1 | exact below_step hHeld.1 (by assumption) | exact below_step hHeld.1 (below_alloc _ _)))
  clear hK K
  try simp only [Act.put, List.setIfInBounds_toArray, List.set_cons_zero, List.set_cons_succ]
  refine run_at 4 rfl (by kernel_rfl) (by rfl) (fun K hK => ?_)
  go_simp
  refine (key_calls _ _ hcl).mono ?_
  rintro e w' ⟨rfl, rfl⟩
  go_wp2_with fail
  refine hK.out _ _ ?_ (fun hHeld => ?_)
  · (exact HS.out _ (by first | assumption | exact hHeld.1 | exact below_step hHeld.1 (by assumption) | exact below_step hHeld.1 (below_alloc _ _)))
  clear hK K
  try simp only [Act.put, List.setIfInBounds_toArray, List.set_cons_zero, List.set_cons_succ]
  refine run_at 5 rfl (by kernel_rfl) (by rfl) (fun K hK => ?_)
  go_simp
  refine (unless_calls _ _ _).mono ?_
  rintro e w' ⟨rfl, rfl⟩
  go_wp2_with fail
  refine hK.out _ _ ?_ (fun hHeld => ?_)
  · (exact HS.out _ (by first | assumption | exact hHeld.1 | exact below_step hHeld.1 (by assumption) | exact below_step hHeld.1 (below_alloc _ _)))
  clear hK K
  try simp only [Act.put, List.setIfInBounds_toArray, List.set_cons_zero, List.set_cons_succ]
  refine run_at 7 rfl (by kernel_rfl) (by rfl) (fun K hK => ?_)
  go_simp
  refine (week_calls _ _).mono ?_
  rintro e w' ⟨rfl, rfl⟩
  go_wp2_with fail
  refine hK.out _ _ ?_ (fun hHeld => ?_)
  · (exact HS.out _ (by first | assumption | exact hHeld.1 | exact below_step hHeld.1 (by assumption) | exact below_step hHeld.1 (below_alloc _ _)))
  clear hK K
  try simp only [Act.put, List.setIfInBounds_toArray, List.set_cons_zero, List.set_cons_succ]
  refine run_at 8 rfl (by kernel_rfl) (by rfl) (fun K hK => ?_)
  go_simp
  refine (unless_calls _ _ _).mono ?_
  rintro e w' ⟨rfl, rfl⟩
  go_wp2_with fail
  refine hK.out _ _ ?_ (fun hHeld => ?_)
  · (exact HS.out _ (by first | assumption | exact hHeld.1 | exact below_step hHeld.1 (by assumption) | exact below_step hHeld.1 (below_alloc _ _)))
  clear hK K
  try simp only [Act.put, List.setIfInBounds_toArray, List.set_cons_zero, List.set_cons_succ]
  refine run_at 9 rfl (by kernel_rfl) (by rfl) (fun K hK => ?_)
  go_simp
  refine hK.out _ _ ?_ (fun hHeld => ?_)
  · (exact HS.out _ (by first | assumption | exact hHeld.1 | exact below_step hHeld.1 (by assumption) | exact below_step hHeld.1 (below_alloc _ _)))
  clear hK K
  try simp only [Act.put, List.setIfInBounds_toArray, List.set_cons_zero, List.set_cons_succ]
  refine run_at 10 rfl (by kernel_rfl) (by rfl) (fun K hK => ?_)
  go_simp
  refine (orE_calls _ 0 3 [chkSt ps ss, unlessE (keyB club) 5, unlessE (betwB week 1 60) 1] _ (by simp) (by exact nums3 _ _ _ _ _)).mono ?_
  rintro e w' ⟨rfl, rfl⟩
  go_wp2_with fail
  refine hK.out _ _ ?_ (fun hHeld => ?_)
  · (exact HS.out _ (by first | assumption | exact hHeld.1 | exact below_step hHeld.1 (by assumption) | exact below_step hHeld.1 (below_alloc _ _)))
  clear hK K
  try simp only [Act.put, List.setIfInBounds_toArray, List.set_cons_zero, List.set_cons_succ]
  refine take_at 11 10 (v := ?_) rfl rfl (by kernel_rfl) (by kernel_rfl) (by kernel_rfl) (fun _ _ _ h => h) (by rfl) ?y11 (by assumption) ?r11
  case y11 =>
    intro w hSw
    try dsimp only at hSw
    go_simp
    try with_reducible rfl
  simp only [List.set_cons_zero, List.set_cons_succ]
  refine wpAnyH_done (by kernel_rfl) ?_ _
  rw [← HE.out]
  generalize w'.alloc (.cells #[.int .i64 (chkSt ps ss), .int .i64 (unlessE (keyB club) 5), .int .i64 (unlessE (betwB week 1 60) 1)] 32) = W9 at hHeld ⊢
  obtain ⟨hb, hP, hSt, _, x0, x1, x2⟩ := hHeld
  have hbw := below_step hwW hb
  by_cases hz : E = 0
  · have e1 : (E != 0) = false := by simp [hz]
    have Hz := Lib.hid hz
    have HC := Lib.hid (⟨hbw, hSt, x0, x1, x2⟩ : Below w.heap.size w W9 ∧ Sts W9 lo (.slice sa ss.length sc) ss ∧ W9.cell? ⟨w.heap.size, 0, none⟩ = some (.slice sa ss.length sc) ∧ W9.cell? ⟨w.heap.size + 1, 0, none⟩ = some (.string club) ∧ W9.cell? ⟨w.heap.size + 2, 0, none⟩ = some (.int .i64 week))
    clear hz hb hbw hSt x0 x1 x2
    go_wp2_with fail
    refine (those_calls 78 _ (enters_of Tryz.func78 (by kernel_rfl) rfl) (fun p => beqS (clubB ss p.key week) club) lo' _ ps _ hP (fun W' i p x hi hb' hx => ?s1)).mono ?_
    case s1 =>
      obtain ⟨_, hSt, x0, x1, x2⟩ := HC.out
      exact squad1_calls _ _ _ lo p.key club week _ _ _ ss W' (hSt.below hb') HN.out (below_cell hb' x0) (below_cell hb' x2) (below_cell hb' x1)
    rintro e w4 ⟨v4, ho, rfl, hb4⟩
    go_wp2_with fail
    go_ret2
    refine ⟨v4, ?_, ?_, below_step HC.out.1 hb4⟩
    · rw [HR.out, if_pos Hz.out]; exact owns_mono ho HC.out.1.size
    · rw [Hz.out]; rfl
  · have e1 : (E != 0) = true := by simp [hz]
    have Hz := Lib.hid hz
    clear hz
    go_wp2_with fail
    go_ret2
    refine ⟨.slice none 0 0, ?_, rfl, hbw⟩
    rw [HR.out, if_neg Hz.out]
    exact World.ownsRow_nil _ _ _ _
end Go.Proofs.YtmjkbmkjnbpgeaaGreatDoor
