/- Fieldable. Plain facts: the program's and the reference's answers on healths are one. -/
import Derived.Test.YtiedmbgdmafhaaaGreatDoorHe
import Derived.Test.YtiedmbgdmafhaaaGreatDoorBh
import Derived.Test.YtiedmbgdmafhaaaGreatDoorHf
import Derived.Test.YtiedmbgdmafhaaaGreatDoorFe
namespace Go.Proofs.YtiedmbgdmafhaaaGreatDoor
open Go.RowKit Go.Maps

/-- A look-up of a string in the map of first games, in whatever world holds it. -/
theorem look_begins {w : World} {b n : Nat} {l : List (ByteArray × Int)} {club : ByteArray} (hB : Begins w b n l) (hcl : club.size ≤ 1000000) :
    (Instr.lookup 135 (.map (some b)) (.string club) true).run Tryz.prog w = .ok (.tuple #[.int .i64 ((lkA l club).getD 0), .bool (lkA l club).isSome]) w := by
  obtain ⟨D, hown, hD⟩ := hB
  obtain ⟨v, ps, hrun, hv⟩ := hown.look_ok lawS Tryz.underlying135 (zero_int w) (plainElem_int Tryz.underlying3 (by decide)) (kL_key hcl)
  obtain ⟨c, rfl, hc, hwc⟩ := plainElem_int_inv Tryz.underlying3 hv
  have h1 := hD club
  have h2 := congrArg Prod.fst hc
  have h3 : c = (lkA l club).getD 0 := by
    simp only [h1.2] at h2
    simpa using h2.symm
  rw [hrun, h1.1, h3]
set_option maxRecDepth 100000 in
set_option maxHeartbeats 4000000 in
theorem fieldable1_calls (cb cl ck ca ch b n lo lo' : Nat) (l : List (ByteArray × Int)) (k : ByteArray) (week at' : Int) (x y v hv : Value) (ss : List SD) (hs : List HD) (w : World) (hS : Sts w lo v ss) (hn : ss.length ≤ 1000000) (hH : Hds w lo' hv hs) (hhn : hs.length ≤ 1000000) (hB : Begins w b n l) (hcl : (clubB ss k week).size ≤ 1000000)
    (h1 : w.cell? ⟨cb, 0, none⟩ = some (.map (some b))) (h2 : w.cell? ⟨cl, 0, none⟩ = some v) (h3 : w.cell? ⟨ck, 0, none⟩ = some (.int .i64 week)) (h4 : w.cell? ⟨ca, 0, none⟩ = some (.int .i64 at')) (h5 : w.cell? ⟨ch, 0, none⟩ = some hv) :
    Calls Tryz.prog 114 #[.agg #[.string k, x, y], .pointer (some ⟨cb, 0, none⟩), .pointer (some ⟨cl, 0, none⟩), .pointer (some ⟨ck, 0, none⟩), .pointer (some ⟨ca, 0, none⟩), .pointer (some ⟨ch, 0, none⟩)] w (BoolIs (pickB (lkA l (clubB ss k week)) (stateB hs k week) at') w) := by
  obtain ⟨sa, sc, rfl⟩ := sts_shape hS
  obtain ⟨ha, hc, rfl⟩ := hds_shape hH
  obtain ⟨W, hW⟩ : ∃ W, W = w.alloc (.cells #[.string k, x, y] 86) := ⟨_, rfl⟩
  have hwW : Below w.heap.size w W := by rw [hW]; exact below_alloc w _
  have x0 : W.cell? ⟨w.heap.size, 0, none⟩ = some (.string k) := by rw [hW, World.cell?_alloc_at _ _ _ _ rfl]; rfl
  have c1 := below_cell hwW h1
  have c2 := below_cell hwW h2
  have c3 := below_cell hwW h3
  have c4 := below_cell hwW h4
  have c5 := below_cell hwW h5
  have hSW := hS.below hwW
  have hHW := hH.below hwW
  have hBW := hB.kept (gb_below hwW none) (by simp)
  have HS := Lib.hid (show ∀ w', Below W.heap.size W w' → (Below W.heap.size W w' ∧ Sts w' lo (.slice sa ss.length sc) ss ∧ Hds w' lo' (.slice ha hs.length hc) hs ∧ Begins w' b n l ∧ w'.cell? ⟨w.heap.size, 0, none⟩ = some (.string k) ∧ w'.cell? ⟨cb, 0, none⟩ = some (.map (some b)) ∧ w'.cell? ⟨cl, 0, none⟩ = some (.slice sa ss.length sc) ∧ w'.cell? ⟨ck, 0, none⟩ = some (.int .i64 week) ∧ w'.cell? ⟨ca, 0, none⟩ = some (.int .i64 at') ∧ w'.cell? ⟨ch, 0, none⟩ = some (.slice ha hs.length hc)) from fun w' hb => ⟨hb, hSW.below hb, hHW.below hb, hBW.kept (gb_below hb none) (by simp), below_cell hb x0, below_cell hb c1, below_cell hb c2, below_cell hb c3, below_cell hb c4, below_cell hb c5⟩)
  have C1 := Lib.hid (fun w' (h : Sts w' lo (.slice sa ss.length sc) ss) => clubIn_calls lo k week _ ss w' h hn)
  have C2 := Lib.hid (fun w' (h : Hds w' lo' (.slice ha hs.length hc) hs) => stateIn_calls lo' k week _ hs w' h hhn)
  have HL := Lib.hid (fun (w' : World) (h : Begins w' b n l) => look_begins h hcl)
  have HP := Lib.hid (show ∀ o st, pickB o st at' = (o.isSome && (decide (at' < o.getD 0) && (st != 2))) from fun _ _ => rfl)
  generalize clubB ss k week = c at C1 HL hcl ⊢
  generalize stateB hs k week = st at C2 ⊢
  generalize lkA l c = O at HL ⊢
  have hb0 := (Below.refl W.heap.size W).drew
  clear x0 c1 c2 c3 c4 c5 hSW hHW hBW hS hH hB h1 h2 h3 h4 h5 hcl
  go_enter Tryz.func114, Tryz.ntmps114
  go_upto_region 1 with fail
  rw [← hW]
  clear hW
  refine wp_region_held_drew (S := fun w' => Below W.heap.size W w' ∧ Sts w' lo (.slice sa ss.length sc) ss ∧ Hds w' lo' (.slice ha hs.length hc) hs ∧ Begins w' b n l ∧ w'.cell? ⟨w.heap.size, 0, none⟩ = some (.string k) ∧ w'.cell? ⟨cb, 0, none⟩ = some (.map (some b)) ∧ w'.cell? ⟨cl, 0, none⟩ = some (.slice sa ss.length sc) ∧ w'.cell? ⟨ck, 0, none⟩ = some (.int .i64 week) ∧ w'.cell? ⟨ca, 0, none⟩ = some (.int .i64 at') ∧ w'.cell? ⟨ch, 0, none⟩ = some (.slice ha hs.length hc)) (by kernel_rfl) ?_ (fun hHeld => ?_)
  · (exact HS.out _ (by first | assumption | exact hHeld.1 | exact below_step hHeld.1 (by assumption) | exact below_step hHeld.1 (below_alloc _ _)))
  refine take_at 0 11 (v := ?_) rfl rfl (by kernel_rfl) (by kernel_rfl) (by kernel_rfl) (fun _ _ _ h => h) (by rfl) ?y0p (by assumption) ?r0p
  case y0p =>
    intro w hSw
    try dsimp only at hSw
    go_simp
    try with_reducible rfl
  simp only [List.set_cons_zero, List.set_cons_succ]
  refine take_at 1 12 (v := ?_) rfl rfl (by kernel_rfl) (by kernel_rfl) (by kernel_rfl) (fun _ _ _ h => h) (by rfl) ?y1p (by assumption) ?r1p
  case y1p =>
    intro w hSw
    try dsimp only at hSw
    go_simp
    try with_reducible rfl
  simp only [List.set_cons_zero, List.set_cons_succ]
  refine take_at 2 13 (v := ?_) rfl rfl (by kernel_rfl) (by kernel_rfl) (by kernel_rfl) (fun _ _ _ h => h) (by rfl) ?y2p (by assumption) ?r2p
  case y2p =>
    intro w hSw
    try dsimp only at hSw
    go_simp
    try with_reducible rfl
  simp only [List.set_cons_zero, List.set_cons_succ]
  refine take_at 3 14 (v := ?_) rfl rfl (by kernel_rfl) (by kernel_rfl) (by kernel_rfl) (fun _ _ _ h => h) (by rfl) ?y3p (by assumption) ?r3p
  case y3p =>
    intro w hSw
    try dsimp only at hSw
    go_simp
    try with_reducible rfl
  simp only [List.set_cons_zero, List.set_cons_succ]
  refine take_at 4 15 (v := ?_) rfl rfl (by kernel_rfl) (by kernel_rfl) (by kernel_rfl) (fun _ _ _ h => h) (by rfl) ?y4p (by assumption) ?r4p
  case y4p =>
    intro w hSw
    try dsimp only at hSw
    go_simp
    try with_reducible rfl
  simp only [List.set_cons_zero, List.set_cons_succ]
  refine run_at 5 rfl (by kernel_rfl) (by rfl) (fun K hK => ?_)
  go_simp
  refine (C1.out _ (by exact hHeld.2.1)).mono ?_
  rintro e w' ⟨rfl, hb⟩
  go_wp2_with fail
  refine hK.out _ _ ?_ (fun hHeld => ?_)
  · (exact HS.out _ (by first | assumption | exact hHeld.1 | exact below_step hHeld.1 (by assumption) | exact below_step hHeld.1 (below_alloc _ _)))
  clear hK K
  try simp only [Act.put, List.setIfInBounds_toArray, List.set_cons_zero, List.set_cons_succ]
  refine take_at 6 17 (v := .tuple #[.int .i64 (O.getD 0), .bool O.isSome]) rfl rfl (by kernel_rfl) (by kernel_rfl) (by kernel_rfl) (fun _ _ _ h => h) (by rfl) ?y6p (by assumption) ?r6p
  case y6p =>
    intro w hSw
    try dsimp only at hSw
    have hL := HL.out w hSw.2.2.2.1
    go_simp
  simp only [List.set_cons_zero, List.set_cons_succ]
  refine take_at 7 10 (v := ?_) rfl rfl (by kernel_rfl) (by kernel_rfl) (by kernel_rfl) (fun _ _ _ h => h) (by rfl) ?y7p (by assumption) ?r7p
  case y7p =>
    intro w hSw
    try dsimp only at hSw
    go_simp
    try with_reducible rfl
  simp only [List.set_cons_zero, List.set_cons_succ]
  refine take_at 8 18 (v := ?_) rfl rfl (by kernel_rfl) (by kernel_rfl) (by kernel_rfl) (fun _ _ _ h => h) (by rfl) ?y8p (by assumption) ?r8p
  case y8p =>
    intro w hSw
    try dsimp only at hSw
    go_simp
    try with_reducible rfl
  simp only [List.set_cons_zero, List.set_cons_succ]
  refine take_at 9 19 (v := ?_) rfl rfl (by kernel_rfl) (by kernel_rfl) (by kernel_rfl) (fun _ _ _ h => h) (by rfl) ?y9p (by assumption) ?r9p
  case y9p =>
    intro w hSw
    try dsimp only at hSw
    go_simp
    try with_reducible rfl
  simp only [List.set_cons_zero, List.set_cons_succ]
  refine take_at 10 8 (v := ?_) rfl rfl (by kernel_rfl) (by kernel_rfl) (by kernel_rfl) (fun _ _ _ h => h) (by rfl) ?y10p (by assumption) ?r10p
  case y10p =>
    intro w hSw
    try dsimp only at hSw
    go_simp
    try with_reducible rfl
  simp only [List.set_cons_zero, List.set_cons_succ]
  refine take_at 11 9 (v := ?_) rfl rfl (by kernel_rfl) (by kernel_rfl) (by kernel_rfl) (fun _ _ _ h => h) (by rfl) ?y11p (by assumption) ?r11p
  case y11p =>
    intro w hSw
    try dsimp only at hSw
    go_simp
    try with_reducible rfl
  simp only [List.set_cons_zero, List.set_cons_succ]
  refine wpAnyH_done (by kernel_rfl) ?_ _
  obtain ⟨hbh, hSt, hHe, _, y0, y1, y2, y3, y4, y5⟩ := hHeld
  have hbw := below_step hwW hbh
  have C3 := Lib.hid (C2.out _ hHe)
  clear hSt hHe hbh HS HL C1 C2
  cases O with
  | none =>
    have HR := Lib.hid (show pickB none st at' = false from rfl)
    simp only [Option.getD_none, Option.isSome_none]
    go_wp2_with fail
    go_ret
    exact ⟨ret_bool HR.out.symm, hbw⟩
  | some z =>
    simp only [Option.getD_some, Option.isSome_some]
    by_cases hz : at' < z
    · have hz1 : decide (at' < z) = true := decide_eq_true hz
      have HR := Lib.hid (show pickB (some z) st at' = (st != 2) by rw [HP.out]; simp [hz])
      go_wp2_with fail
      refine C3.out.mono ?_
      rintro e w2 ⟨rfl, hb2⟩
      go_wp2_with fail
      go_ret
      exact ⟨ret_bool HR.out.symm, below_step hbw hb2⟩
    · have hz1 : decide (at' < z) = false := decide_eq_false hz
      have hz2 : z ≤ at' := by omega
      have HR := Lib.hid (show pickB (some z) st at' = false by rw [HP.out]; simp [hz])
      go_wp2_with fail
      go_ret
      exact ⟨ret_bool HR.out.symm, hbw⟩

def fieldE (ps : List PD) (ss : List SD) (hs : List HD) (fs : List FD) (week at' : Int) : Int := firstE [chkSt ps ss, chkHd ps hs, chkFx fs, unlessE (betwB week 1 60) 1, unlessE (betwB at' 0 345686399999) 1]
def fieldR (ps : List PD) (ss : List SD) (hs : List HD) (fs : List FD) (week at' : Int) : List ByteArray := if fieldE ps ss hs fs week at' = 0 then thoseL (fun p => pickB (lkA (bgL week fs) (clubB ss p.key week)) (stateB hs p.key week) at') ps else []
set_option maxRecDepth 100000 in
set_option maxHeartbeats 8000000 in
theorem fieldable_calls (lo l1 l2 l3 : Nat) (pv sv hv fv : Value) (ps : List PD) (ss : List SD) (hs : List HD) (fs : List FD) (week at' : Int) (w : World) (hp : Plays w l1 pv ps) (hps : ∀ p ∈ ps, SmallP p) (hpn : ps.length ≤ 1000000) (hG : Glob w) (hS : Sts w lo sv ss) (hss : ∀ s ∈ ss, OkS s) (hsn : ss.length ≤ 1000000) (hH : Hds w l2 hv hs) (hhn : hs.length ≤ 1000000) (hF : Fxs w l3 fv fs) (hok : ∀ f ∈ fs, OkF f) (hfn : fs.length ≤ 10000) :
    Calls Tryz.prog 32 #[pv, sv, hv, fv, .int .i64 week, .int .i64 at'] w (MadeSE (fieldR ps ss hs fs week at') (fieldE ps ss hs fs week at') w) := by
  obtain ⟨pa, pc, rfl⟩ := plays_shape hp
  obtain ⟨sa, sc, rfl⟩ := sts_shape hS
  obtain ⟨ha, hc, rfl⟩ := hds_shape hH
  obtain ⟨fa, fc, rfl⟩ := fxs_shape hF
  have HE := Lib.hid (show fieldE ps ss hs fs week at' = firstE [chkSt ps ss, chkHd ps hs, chkFx fs, unlessE (betwB week 1 60) 1, unlessE (betwB at' 0 345686399999) 1] from rfl)
  have HR := Lib.hid (show fieldR ps ss hs fs week at' = if fieldE ps ss hs fs week at' = 0 then thoseL (fun p => pickB (lkA (bgL week fs) (clubB ss p.key week)) (stateB hs p.key week) at') ps else [] from rfl)
  generalize fieldE ps ss hs fs week at' = E at HE HR ⊢
  generalize fieldR ps ss hs fs week at' = R at HR ⊢
  obtain ⟨W, hW⟩ : ∃ W, W = (((w.alloc (.cells #[.slice sa ss.length sc] 28)).alloc (.cells #[.slice ha hs.length hc] 49)).alloc (.cells #[.int .i64 week] 3)).alloc (.cells #[.int .i64 at'] 3) := ⟨_, rfl⟩
  have hwW : Below w.heap.size w W := by rw [hW]; exact below_step (below_step (below_step (below_alloc w _) (below_alloc _ _)) (below_alloc _ _)) (below_alloc _ _)
  have x0 : W.cell? ⟨w.heap.size, 0, none⟩ = some (.slice sa ss.length sc) := by rw [hW, World.cell?_alloc_past _ _ _ (by simp <;> omega), World.cell?_alloc_past _ _ _ (by simp <;> omega), World.cell?_alloc_past _ _ _ (by simp), World.cell?_alloc_at _ _ _ _ rfl]; rfl
  have x1 : W.cell? ⟨w.heap.size + 1, 0, none⟩ = some (.slice ha hs.length hc) := by rw [hW, World.cell?_alloc_past _ _ _ (by simp <;> omega), World.cell?_alloc_past _ _ _ (by simp), World.cell?_alloc_at _ _ _ _ (by simp)]; rfl
  have x2 : W.cell? ⟨w.heap.size + 2, 0, none⟩ = some (.int .i64 week) := by rw [hW, World.cell?_alloc_past _ _ _ (by simp), World.cell?_alloc_at _ _ _ _ (by simp)]; rfl
  have x3 : W.cell? ⟨w.heap.size + 3, 0, none⟩ = some (.int .i64 at') := by rw [hW, World.cell?_alloc_at _ _ _ _ (by simp)]; rfl
  have hPW := hp.below hwW
  have hSW := hS.below hwW
  have hHW := hH.below hwW
  have hFW := hF.below hwW
  have hGW := hG.below hwW
  have HS := Lib.hid (show ∀ w', Below W.heap.size W w' → (Below W.heap.size W w' ∧ Plays w' l1 (.slice pa ps.length pc) ps ∧ Sts w' lo (.slice sa ss.length sc) ss ∧ Hds w' l2 (.slice ha hs.length hc) hs ∧ Fxs w' l3 (.slice fa fs.length fc) fs ∧ Glob w' ∧ w'.cell? ⟨w.heap.size, 0, none⟩ = some (.slice sa ss.length sc) ∧ w'.cell? ⟨w.heap.size + 1, 0, none⟩ = some (.slice ha hs.length hc) ∧ w'.cell? ⟨w.heap.size + 2, 0, none⟩ = some (.int .i64 week) ∧ w'.cell? ⟨w.heap.size + 3, 0, none⟩ = some (.int .i64 at')) from fun w' hb => ⟨hb, hPW.below hb, hSW.below hb, hHW.below hb, hFW.below hb, hGW.below hb, below_cell hb x0, below_cell hb x1, below_cell hb x2, below_cell hb x3⟩)
  have hb0 := (Below.refl W.heap.size W).drew
  have HN := Lib.hid hsn
  have HN2 := Lib.hid hhn
  have HSs := Lib.hid hss
  have HOk := Lib.hid hok
  clear x0 x1 x2 x3 hPW hSW hHW hFW hGW hS hp hG hH hF hss hok
  go_enter Tryz.func32, Tryz.ntmps32
  go_upto_region 1 with fail
  rw [← hW]
  clear hW
  refine wp_region_held_drew (S := fun w' => Below W.heap.size W w' ∧ Plays w' l1 (.slice pa ps.length pc) ps ∧ Sts w' lo (.slice sa ss.length sc) ss ∧ Hds w' l2 (.slice ha hs.length hc) hs ∧ Fxs w' l3 (.slice fa fs.length fc) fs ∧ Glob w' ∧ w'.cell? ⟨w.heap.size, 0, none⟩ = some (.slice sa ss.length sc) ∧ w'.cell? ⟨w.heap.size + 1, 0, none⟩ = some (.slice ha hs.length hc) ∧ w'.cell? ⟨w.heap.size + 2, 0, none⟩ = some (.int .i64 week) ∧ w'.cell? ⟨w.heap.size + 3, 0, none⟩ = some (.int .i64 at')) (by kernel_rfl) ?_ (fun hHeld => ?_)
  · (exact HS.out _ (by first | assumption | exact hHeld.1 | exact below_step hHeld.1 (by assumption) | exact below_step hHeld.1 (below_alloc _ _)))
  refine take_at 0 16 (v := ?_) rfl rfl (by kernel_rfl) (by kernel_rfl) (by kernel_rfl) (fun _ _ _ h => h) (by rfl) ?y0f (by assumption) ?r0f
  case y0f =>
    intro w hSw
    try dsimp only at hSw
    go_simp
    try with_reducible rfl
  simp only [List.set_cons_zero, List.set_cons_succ]
  refine take_at 1 17 (v := ?_) rfl rfl (by kernel_rfl) (by kernel_rfl) (by kernel_rfl) (fun _ _ _ h => h) (by rfl) ?y1f (by assumption) ?r1f
  case y1f =>
    intro w hSw
    try dsimp only at hSw
    go_simp
    try with_reducible rfl
  simp only [List.set_cons_zero, List.set_cons_succ]
  refine take_at 3 19 (v := ?_) rfl rfl (by kernel_rfl) (by kernel_rfl) (by kernel_rfl) (fun _ _ _ h => h) (by rfl) ?y3f (by assumption) ?r3f
  case y3f =>
    intro w hSw
    try dsimp only at hSw
    go_simp
    try with_reducible rfl
  simp only [List.set_cons_zero, List.set_cons_succ]
  refine take_at 4 20 (v := ?_) rfl rfl (by kernel_rfl) (by kernel_rfl) (by kernel_rfl) (fun _ _ _ h => h) (by rfl) ?y4f (by assumption) ?r4f
  case y4f =>
    intro w hSw
    try dsimp only at hSw
    go_simp
    try with_reducible rfl
  simp only [List.set_cons_zero, List.set_cons_succ]
  refine take_at 6 22 (v := ?_) rfl rfl (by kernel_rfl) (by kernel_rfl) (by kernel_rfl) (fun _ _ _ h => h) (by rfl) ?y6f (by assumption) ?r6f
  case y6f =>
    intro w hSw
    try dsimp only at hSw
    go_simp
    try with_reducible rfl
  simp only [List.set_cons_zero, List.set_cons_succ]
  refine take_at 8 24 (v := ?_) rfl rfl (by kernel_rfl) (by kernel_rfl) (by kernel_rfl) (fun _ _ _ h => h) (by rfl) ?y8f (by assumption) ?r8f
  case y8f =>
    intro w hSw
    try dsimp only at hSw
    go_simp
    try with_reducible rfl
  simp only [List.set_cons_zero, List.set_cons_succ]
  refine take_at 11 27 (v := ?_) rfl rfl (by kernel_rfl) (by kernel_rfl) (by kernel_rfl) (fun _ _ _ h => h) (by rfl) ?y11f (by assumption) ?r11f
  case y11f =>
    intro w hSw
    try dsimp only at hSw
    go_simp
    try with_reducible rfl
  simp only [List.set_cons_zero, List.set_cons_succ]
  refine run_at 2 rfl (by kernel_rfl) (by rfl) (fun K hK => ?_)
  go_simp
  refine (checkStints_calls lo l1 _ _ ps ss _ (by exact hHeld.2.1) hps hpn (by exact hHeld.2.2.2.2.2.1) (by exact hHeld.2.2.1) HSs.out hsn).mono ?_
  rintro e w' ⟨rfl, hb⟩
  go_wp2_with fail
  refine hK.out _ _ ?_ (fun hHeld => ?_)
  · (exact HS.out _ (by first | assumption | exact hHeld.1 | exact below_step hHeld.1 (by assumption) | exact below_step hHeld.1 (below_alloc _ _)))
  clear hK K
  try simp only [Act.put, List.setIfInBounds_toArray, List.set_cons_zero, List.set_cons_succ]
  refine run_at 5 rfl (by kernel_rfl) (by rfl) (fun K hK => ?_)
  go_simp
  refine (checkHealth_calls l2 l1 _ _ ps hs _ (by exact hHeld.2.1) hps hpn (by exact hHeld.2.2.2.2.2.1) (by exact hHeld.2.2.2.1) hhn).mono ?_
  rintro e w' ⟨rfl, hb⟩
  go_wp2_with fail
  refine hK.out _ _ ?_ (fun hHeld => ?_)
  · (exact HS.out _ (by first | assumption | exact hHeld.1 | exact below_step hHeld.1 (by assumption) | exact below_step hHeld.1 (below_alloc _ _)))
  clear hK K
  try simp only [Act.put, List.setIfInBounds_toArray, List.set_cons_zero, List.set_cons_succ]
  refine run_at 7 rfl (by kernel_rfl) (by rfl) (fun K hK => ?_)
  go_simp
  refine (checkFixtures_calls l3 _ fs _ (by exact hHeld.2.2.2.2.1) HOk.out (by omega)).mono ?_
  rintro e w' ⟨rfl, hb⟩
  go_wp2_with fail
  refine hK.out _ _ ?_ (fun hHeld => ?_)
  · (exact HS.out _ (by first | assumption | exact hHeld.1 | exact below_step hHeld.1 (by assumption) | exact below_step hHeld.1 (below_alloc _ _)))
  clear hK K
  try simp only [Act.put, List.setIfInBounds_toArray, List.set_cons_zero, List.set_cons_succ]
  refine run_at 9 rfl (by kernel_rfl) (by rfl) (fun K hK => ?_)
  go_simp
  refine (week_calls _ _).mono ?_
  rintro e w' ⟨rfl, rfl⟩
  go_wp2_with fail
  refine hK.out _ _ ?_ (fun hHeld => ?_)
  · (exact HS.out _ (by first | assumption | exact hHeld.1 | exact below_step hHeld.1 (by assumption) | exact below_step hHeld.1 (below_alloc _ _)))
  clear hK K
  try simp only [Act.put, List.setIfInBounds_toArray, List.set_cons_zero, List.set_cons_succ]
  refine run_at 10 rfl (by kernel_rfl) (by rfl) (fun K hK => ?_)
  go_simp
  refine (unless_calls _ _ _).mono ?_
  rintro e w' ⟨rfl, rfl⟩
  go_wp2_with fail
  refine hK.out _ _ ?_ (fun hHeld => ?_)
  · (exact HS.out _ (by first | assumption | exact hHeld.1 | exact below_step hHeld.1 (by assumption) | exact below_step hHeld.1 (below_alloc _ _)))
  clear hK K
  try simp only [Act.put, List.setIfInBounds_toArray, List.set_cons_zero, List.set_cons_succ]
  refine run_at 12 rfl (by kernel_rfl) (by rfl) (fun K hK => ?_)
  go_simp
  refine (moment_calls _ _).mono ?_
  rintro e w' ⟨rfl, rfl⟩
  go_wp2_with fail
  refine hK.out _ _ ?_ (fun hHeld => ?_)
  · (exact HS.out _ (by first | assumption | exact hHeld.1 | exact below_step hHeld.1 (by assumption) | exact below_step hHeld.1 (below_alloc _ _)))
  clear hK K
  try simp only [Act.put, List.setIfInBounds_toArray, List.set_cons_zero, List.set_cons_succ]
  refine run_at 13 rfl (by kernel_rfl) (by rfl) (fun K hK => ?_)
  go_simp
  refine (unless_calls _ _ _).mono ?_
  rintro e w' ⟨rfl, rfl⟩
  go_wp2_with fail
  refine hK.out _ _ ?_ (fun hHeld => ?_)
  · (exact HS.out _ (by first | assumption | exact hHeld.1 | exact below_step hHeld.1 (by assumption) | exact below_step hHeld.1 (below_alloc _ _)))
  clear hK K
  try simp only [Act.put, List.setIfInBounds_toArray, List.set_cons_zero, List.set_cons_succ]
  refine run_at 14 rfl (by kernel_rfl) (by rfl) (fun K hK => ?_)
  go_simp
  refine hK.out _ _ ?_ (fun hHeld => ?_)
  · (exact HS.out _ (by first | assumption | exact hHeld.1 | exact below_step hHeld.1 (by assumption) | exact below_step hHeld.1 (below_alloc _ _)))
  clear hK K
  try simp only [Act.put, List.setIfInBounds_toArray, List.set_cons_zero, List.set_cons_succ]
  refine run_at 15 rfl (by kernel_rfl) (by rfl) (fun K hK => ?_)
  go_simp
  refine (orE_calls _ 0 5 [chkSt ps ss, chkHd ps hs, chkFx fs, unlessE (betwB week 1 60) 1, unlessE (betwB at' 0 345686399999) 1] _ (by simp) (by exact nums5 _ _ _ _ _ _ _)).mono ?_
  rintro e w' ⟨rfl, rfl⟩
  go_wp2_with fail
  refine hK.out _ _ ?_ (fun hHeld => ?_)
  · (exact HS.out _ (by first | assumption | exact hHeld.1 | exact below_step hHeld.1 (by assumption) | exact below_step hHeld.1 (below_alloc _ _)))
  clear hK K
  try simp only [Act.put, List.setIfInBounds_toArray, List.set_cons_zero, List.set_cons_succ]
  refine take_at 16 14 (v := ?_) rfl rfl (by kernel_rfl) (by kernel_rfl) (by kernel_rfl) (fun _ _ _ h => h) (by rfl) ?y16f (by assumption) ?r16f
  case y16f =>
    intro w hSw
    try dsimp only at hSw
    go_simp
    try with_reducible rfl
  simp only [List.set_cons_zero, List.set_cons_succ]
  refine wpAnyH_done (by kernel_rfl) ?_ _
  rw [← HE.out]
  generalize w'.alloc (.cells #[.int .i64 (chkSt ps ss), .int .i64 (chkHd ps hs), .int .i64 (chkFx fs), .int .i64 (unlessE (betwB week 1 60) 1), .int .i64 (unlessE (betwB at' 0 345686399999) 1)] 32) = W9 at hHeld ⊢
  obtain ⟨hb, hP, hSt, hHe, hFx, _, x0, x1, x2, x3⟩ := hHeld
  have hbw := below_step hwW hb
  by_cases hz : E = 0
  · have e1 : (E != 0) = false := by simp [hz]
    have Hz := Lib.hid hz
    have HC := Lib.hid (⟨hbw, hP, hSt, hHe, x0, x1, x2, x3⟩ : Below w.heap.size w W9 ∧ Plays W9 l1 (.slice pa ps.length pc) ps ∧ Sts W9 lo (.slice sa ss.length sc) ss ∧ Hds W9 l2 (.slice ha hs.length hc) hs ∧ W9.cell? ⟨w.heap.size, 0, none⟩ = some (.slice sa ss.length sc) ∧ W9.cell? ⟨w.heap.size + 1, 0, none⟩ = some (.slice ha hs.length hc) ∧ W9.cell? ⟨w.heap.size + 2, 0, none⟩ = some (.int .i64 week) ∧ W9.cell? ⟨w.heap.size + 3, 0, none⟩ = some (.int .i64 at'))
    have CF := Lib.hid (firsts_calls l3 _ fs week W9 hFx HOk.out hfn)
    clear hz hb hP hSt hHe hFx x0 x1 x3 hbw
    go_wp2_with fail
    refine CF.out.mono ?_
    rintro e w5 ⟨b, n, rfl, hB, hbW, hb5⟩
    obtain ⟨w6, hw6⟩ : ∃ w6, w6 = w5.alloc (.cells #[.map (some b)] 135) := ⟨_, rfl⟩
    have hb6 : Below W9.heap.size W9 w6 := by rw [hw6]; exact below_step hb5 (below_alloc _ _)
    have hB6 : Begins w6 b n (bgL week fs) := by rw [hw6]; exact hB.kept (gb_alloc _ _ none) (by simp)
    have z0 : w6.cell? ⟨w5.heap.size, 0, none⟩ = some (.map (some b)) := by rw [hw6, World.cell?_alloc_at _ _ _ _ rfl]; rfl
    have HD := Lib.hid (⟨hb6, hB6, z0⟩ : Below W9.heap.size W9 w6 ∧ Begins w6 b n (bgL week fs) ∧ w6.cell? ⟨w5.heap.size, 0, none⟩ = some (.map (some b)))
    have hP6 := HC.out.2.1.below hb6
    clear CF hB hb6 hB6 z0 hb5 hbW
    go_upto_region 5 with fail
    rw [← hw6]
    clear hw6
    go_wp2_with fail
    refine (those_calls 114 _ (enters_of Tryz.func114 (by kernel_rfl) rfl) (fun p => pickB (lkA (bgL week fs) (clubB ss p.key week)) (stateB hs p.key week) at') l1 _ ps _ hP6 (fun W' i p x hi hb' hx => ?s1)).mono ?_
    case s1 =>
      obtain ⟨_, _, hSt, hHe, x0, x1, x2, x3⟩ := HC.out
      obtain ⟨hb6, hB6, z0⟩ := HD.out
      have hbb := below_step hb6 hb'
      exact fieldable1_calls w5.heap.size w.heap.size (w.heap.size + 2) (w.heap.size + 3) (w.heap.size + 1) b n lo l2 (bgL week fs) p.key week at' _ _ _ _ ss hs W' (hSt.below hbb) HN.out (hHe.below hbb) HN2.out (hB6.kept (gb_below hb' none) (by simp)) (clubB_small HSs.out p.key week) (below_cell hb' z0) (below_cell hbb x0) (below_cell hbb x2) (below_cell hbb x3) (below_cell hbb x1)
    rintro e w7 ⟨v7, ho, rfl, hb7⟩
    have hb67 := below_step HC.out.1 (below_step HD.out.1 hb7)
    have hs67 := Nat.le_trans HC.out.1.size HD.out.1.size
    go_wp2_with fail
    go_ret2
    refine ⟨v7, ?_, ?_, hb67⟩
    · rw [HR.out, if_pos Hz.out]; exact owns_mono ho hs67
    · rw [Hz.out]; rfl
  · have e1 : (E != 0) = true := by simp [hz]
    have Hz := Lib.hid hz
    clear hz
    go_wp2_with fail
    go_ret2
    refine ⟨.slice none 0 0, ?_, rfl, hbw⟩
    rw [HR.out, if_neg Hz.out]
    exact World.ownsRow_nil _ _ _ _
end Go.Proofs.YtiedmbgdmafhaaaGreatDoor
namespace Go.Proofs.YtiedmbgdmafhaaaGreatDoor
open Go.RowKit

/-- A health as a stint, by which the order is told. -/
def toS (h : HD) : SD := ⟨h.player, ⟨#[]⟩, h.start⟩
theorem cmpHd_st (a b : HD) : cmpHd a b = cmpSt (toS a) (toS b) := rfl
theorem stAt_map (hs : List HD) (i : Nat) : stAt (hs.map toS) i = toS (hdAt hs i) := by
  unfold stAt hdAt
  rw [List.getElem?_map]
  cases hs[i]? <;> rfl
theorem stateK_eq (hs : List HD) (who : ByteArray) (week : Int) : stateK hs who week = clubK (hs.map toS) who week := by
  unfold stateK clubK
  rw [List.length_map]
  congr 1
  funext i
  rw [stAt_map]
  rfl
theorem rangeR_eq (s : HD) : rangeR s = rangeB s := by
  unfold rangeR rangeB betwB
  rw [Bool.eq_iff_iff]
  simp only [Bool.and_eq_true, decide_eq_true_eq]
  omega
theorem fallB_eq (o x : HD) : fallB o x = !decide (cmpHd o x < 0) := by
  rw [cmpHd_st]
  unfold fallB
  cases hl : ltS x.player o.player
  · cases he : beqS x.player o.player
    · rw [decide_eq_true (cmpSt_gt (a := toS o) (b := toS x) hl he)]; rfl
    · have h := cmpSt_wk (a := toS o) (b := toS x) he
      by_cases hw : o.start < x.start
      · rw [decide_eq_true (h.2 hw), decide_eq_false (by omega)]; rfl
      · rw [decide_eq_false (fun h' => hw (h.1 h')), decide_eq_true (by omega)]; rfl
  · rw [decide_eq_false (cmpSt_lt (a := toS o) (b := toS x) hl)]; rfl
theorem beqS_comm (a b : ByteArray) : beqS a b = beqS b a := by
  rw [Bool.eq_iff_iff, beqS_iff, beqS_iff]
  exact ⟨Eq.symm, Eq.symm⟩
theorem clashB_eq (o x : HD) : clashB o x = !(!beqS o.player x.player || decide (o.stop ≤ x.start)) := by
  unfold clashB
  rw [beqS_comm]
  cases beqS o.player x.player
  · rfl
  · by_cases h : x.start < o.stop
    · rw [decide_eq_true h, decide_eq_false (by omega)]; rfl
    · rw [decide_eq_false h, decide_eq_true (by omega)]; rfl
theorem hdF_hdH {ps : List PD} (hs : List HD) (h : chkPs ps = 0) (i : Nat) : hdF ps hs i = hdH ps hs i := by
  unfold hdF hdH hdA
  simp only
  rw [known_hasP h, rangeR_eq, fallB_eq, clashB_eq]
  generalize hasP ps (hdAt hs i).player = A
  generalize rangeB (hdAt hs i) = B
  generalize kindB (hdAt hs i) = C
  generalize decide (cmpHd (hdAt hs (i - 1)) (hdAt hs i) < 0) = D
  generalize (!beqS (hdAt hs (i - 1)).player (hdAt hs i).player || decide ((hdAt hs (i - 1)).stop ≤ (hdAt hs i).start)) = E
  by_cases hi : i = 0
  · rw [if_pos (.inr hi), if_pos hi]
    cases A <;> cases B <;> cases C <;> rfl
  · rw [if_neg hi]
    cases A <;> cases B <;> cases C <;> cases D <;> cases E <;> simp [firstE, unlessE, hi]
/-- The reference finds what the program finds in players and healths. -/
theorem chkHd_eq (ps : List PD) (hs : List HD) : chkHd ps hs = firstE [chkPs ps, refHd ps hs] := by
  unfold chkHd refHd
  by_cases h : chkPs ps = 0
  · rw [eachE_congr fun i _ => hdF_hdH hs h i]
  · simp only [firstE]; rw [if_neg h, if_neg h]
theorem chkHd_players {ps : List PD} {hs : List HD} (h : chkHd ps hs = 0) : chkPs ps = 0 := firstE_all h _ (by simp)
theorem stateE_eq (ps : List PD) (hs : List HD) (who : ByteArray) (week : Int) : stateE ps hs who week = firstE [chkPs ps, refHd ps hs, unlessE (hasP ps who) 8, unlessE (betwB week 1 60) 1] := by
  unfold stateE
  rw [chkHd_eq]
  by_cases h : chkPs ps = 0
  · rw [known_hasP h]
    simp only [firstE, h, if_true]
    by_cases h2 : refHd ps hs = 0 <;> simp [h2]
  · simp [firstE, h]
theorem frstE_eq (ps : List PD) (ss : List SD) (fs : List FD) (who : ByteArray) (week : Int) : frstE ps ss fs who week = firstE [chkPs ps, refSt ps ss, refFx fs, unlessE (hasP ps who) 8, unlessE (betwB week 1 60) 1] := by
  unfold frstE
  rw [chkSt_eq, chkFx_eq]
  by_cases h : chkPs ps = 0
  · rw [known_hasP h]
    simp only [firstE, h, if_true]
    by_cases h2 : refSt ps ss = 0 <;> simp [h2]
  · simp [firstE, h]
theorem fieldE_eq (ps : List PD) (ss : List SD) (hs : List HD) (fs : List FD) (week at' : Int) : fieldE ps ss hs fs week at' = firstE [chkPs ps, refSt ps ss, refHd ps hs, refFx fs, unlessE (betwB week 1 60) 1, unlessE (betwB at' 0 345686399999) 1] := by
  unfold fieldE
  rw [chkSt_eq, chkFx_eq, chkHd_eq]
  by_cases h : chkPs ps = 0
  · simp only [firstE, h, if_true]
    by_cases h2 : refSt ps ss = 0
    · by_cases h3 : refHd ps hs = 0 <;> simp [h2, h3]
    · simp [h2]
  · simp [firstE, h]

theorem hdF_parts {ps : List PD} {hs : List HD} {i : Nat} (h : hdF ps hs i = 0) : hdA ps (hdAt hs i) = 0 ∧ (i ≠ 0 → ltD (toS (hdAt hs (i - 1))) (toS (hdAt hs i)) ∧ ((hdAt hs (i - 1)).player = (hdAt hs i).player → (hdAt hs (i - 1)).stop ≤ (hdAt hs i).start)) := by
  unfold hdF at h
  split at h
  · rename_i hc
    refine ⟨h, fun hi => ?_⟩
    rcases hc with hc | hc
    · exact absurd h hc
    · exact absurd hc hi
  · rename_i hc
    have h0 : hdA ps (hdAt hs i) = 0 := by
      by_cases h1 : hdA ps (hdAt hs i) = 0
      · exact h1
      · exact absurd (.inl h1) hc
    refine ⟨h0, fun _ => ⟨?_, fun hp => ?_⟩⟩
    · have h1 := firstE_all h _ (List.mem_cons_self)
      rw [← cmpSt_neg, ← cmpHd_st]
      by_cases hl : cmpHd (hdAt hs (i - 1)) (hdAt hs i) < 0
      · exact hl
      · rw [decide_eq_false hl] at h1; cases h1
    · have h1 := firstE_all h _ (List.mem_cons_of_mem _ List.mem_cons_self)
      rw [hp, beqS_self] at h1
      by_cases hl : (hdAt hs (i - 1)).stop ≤ (hdAt hs i).start
      · exact hl
      · rw [decide_eq_false hl] at h1; cases h1
theorem hdF_range {ps : List PD} {hs : List HD} {i : Nat} (h : hdF ps hs i = 0) : 1 ≤ (hdAt hs i).start ∧ (hdAt hs i).start < (hdAt hs i).stop := by
  have h1 := firstE_all (hdF_parts h).1 (unlessE (rangeB (hdAt hs i)) 1) (by simp)
  cases hb : rangeB (hdAt hs i)
  · rw [hb] at h1; cases h1
  · unfold rangeB at hb
    simp only [Bool.and_eq_true, decide_eq_true_eq] at hb
    exact ⟨hb.1, hb.2.1⟩
theorem chkHd_each {ps : List PD} {hs : List HD} (h : chkHd ps hs = 0) : ∀ i, i < hs.length → hdF ps hs i = 0 :=
  eachE_all (firstE_all h (eachE hs.length 1000 (hdF ps hs)) (by simp))
theorem sortedH {ps : List PD} {hs : List HD} (h : chkHd ps hs = 0) : ∀ i j, i < j → j < hs.length → ltD (toS (hdAt hs i)) (toS (hdAt hs j)) := by
  have h0 := chkHd_each h
  intro i j hij
  induction j with
  | zero => omega
  | succ j ih =>
    intro hj
    have hs' : ltD (toS (hdAt hs j)) (toS (hdAt hs (j + 1))) := ((hdF_parts (h0 (j + 1) hj)).2 (by omega)).1
    rcases Nat.lt_or_eq_of_le (Nat.lt_succ_iff.1 hij) with h1 | rfl
    · exact ltD_trans (ih h1 (by omega)) hs'
    · exact hs'
/-- Whoever stands between two of one player is of that player. -/
theorem ltD_between {a b c : SD} (h1 : ltD a b) (h2 : ltD b c) (h : a.player = c.player) : b.player = a.player := by
  rcases h1 with h1 | ⟨e1, _⟩
  · rcases h2 with h2 | ⟨e2, _⟩
    · have := ltS_trans h1 h2; rw [h, ltS_irrefl] at this; cases this
    · rw [e2, ← h, ltS_irrefl] at h1; cases h1
  · exact e1.symm
theorem apartH {ps : List PD} {hs : List HD} (h : chkHd ps hs = 0) : ∀ i j, i < j → j < hs.length → (hdAt hs i).player = (hdAt hs j).player → (hdAt hs i).stop ≤ (hdAt hs j).start := by
  have h0 := chkHd_each h
  intro i j hij
  induction j with
  | zero => omega
  | succ j ih =>
    intro hj hp
    have hn := (hdF_parts (h0 (j + 1) hj)).2 (by omega)
    rcases Nat.lt_or_eq_of_le (Nat.lt_succ_iff.1 hij) with h1 | rfl
    · have hb : (hdAt hs j).player = (hdAt hs i).player := ltD_between (sortedH h i j h1 (by omega)) hn.1 hp
      have h2 := ih h1 (by omega) hb.symm
      have h3 := (hdF_range (h0 j (by omega))).2
      have h4 := hn.2 (hb.trans hp)
      rw [Nat.add_sub_cancel] at h4
      omega
    · have := hn.2 (by rw [Nat.add_sub_cancel]; exact hp)
      rw [Nat.add_sub_cancel] at this
      exact this
theorem inH_iff (who : ByteArray) (week : Int) (h : HD) : inH who week h = true ↔ h.player = who ∧ h.start ≤ week ∧ week < h.stop := by
  unfold inH
  rw [Bool.and_eq_true, beqS_iff, Bool.and_eq_true, decide_eq_true_eq, decide_eq_true_eq]
/-- How a player is, by the program and by the reference. -/
theorem stateB_eq {ps : List PD} {hs : List HD} (h : chkHd ps hs = 0) (who : ByteArray) (week : Int) : stateB hs who week = stateO hs who week := by
  have hso := sortedH h
  have hap := apartH h
  have hmono : ∀ i j, i < j → j < hs.length → decide (0 < cmpHd (hdAt hs i) (askH who week)) = true → decide (0 < cmpHd (hdAt hs j) (askH who week)) = true := fun i j hij hj h => by
    rw [decide_eq_true_eq, cmpHd_st, cmpSt_pos] at h ⊢
    exact ltD_trans h (hso i j hij hj)
  obtain ⟨hlo, hhi⟩ := sr_spec hmono hs.length 0 hs.length (Nat.zero_le _) (Nat.le_refl _) (by omega) (fun k hk => by omega) (fun k hk hkn => by omega)
  have hle : stateK hs who week ≤ hs.length := srI_le _ _
  have hlo' : ∀ k, k < stateK hs who week → ¬ ltD (toS (askH who week)) (toS (hdAt hs k)) := fun k hk h => by
    have := hlo k hk
    rw [decide_eq_false_iff_not, cmpHd_st, cmpSt_pos] at this
    exact this h
  have hhi' : ∀ k, stateK hs who week ≤ k → k < hs.length → ltD (toS (askH who week)) (toS (hdAt hs k)) := fun k hk hkn => by
    have := hhi k hk hkn
    rw [decide_eq_true_eq, cmpHd_st, cmpSt_pos] at this
    exact this
  clear hlo hhi hmono
  have only : ∀ k, k < hs.length → inH who week (hdAt hs k) = true → k + 1 = stateK hs who week := fun k hk hin => by
    rw [inH_iff] at hin
    obtain ⟨hp, h1, h2⟩ := hin
    have hb : k < stateK hs who week := by
      rcases Nat.lt_or_ge k (stateK hs who week) with h | h
      · exact h
      · rcases hhi' k h hk with h' | ⟨_, h'⟩
        · rw [show (toS (askH who week)).player = who from rfl, show (toS (hdAt hs k)).player = who from hp, ltS_irrefl] at h'; cases h'
        · rw [show (toS (askH who week)).week = week from rfl, show (toS (hdAt hs k)).week = (hdAt hs k).start from rfl] at h'; omega
    rcases Nat.lt_or_eq_of_le (show k + 1 ≤ stateK hs who week by omega) with h | h
    · exfalso
      have hj : stateK hs who week - 1 < hs.length := by omega
      have hkj := hso k _ (show k < stateK hs who week - 1 by omega) hj
      have hno := hlo' (stateK hs who week - 1) (by omega)
      have hpj : (hdAt hs (stateK hs who week - 1)).player = who := by
        cases hq : beqS (hdAt hs (stateK hs who week - 1)).player who
        · exfalso
          rcases hkj with h' | ⟨h', _⟩
          · apply hno; left
            have h'' : ltS (hdAt hs k).player (hdAt hs (stateK hs who week - 1)).player = true := h'
            rw [hp] at h''
            exact h''
          · have h'' : (hdAt hs k).player = (hdAt hs (stateK hs who week - 1)).player := h'
            rw [hp] at h''
            rw [← h'', beqS_self] at hq; cases hq
        · exact beqS_iff.1 hq
      have h3 := hap k _ (show k < stateK hs who week - 1 by omega) hj (hp.trans hpj.symm)
      apply hno; right
      exact ⟨hpj.symm, show week < (hdAt hs (stateK hs who week - 1)).start by omega⟩
    · exact h
  have hget : ∀ (i : Nat) (x : HD), hs[i]? = some x → hdAt hs i = x := fun i x hx => hdAt_some hx
  unfold stateB
  by_cases hk : stateK hs who week = 0
  · rw [if_pos hk]
    refine (stateO_none fun i x hi hx => ?_).symm
    cases hin : inH who week x
    · rfl
    · have := only i hi (by rw [hget i x hx]; exact hin); omega
  · rw [if_neg hk]
    have hK : stateK hs who week - 1 < hs.length := by omega
    have hx := List.getElem?_eq_getElem hK
    have hno := hlo' (stateK hs who week - 1) (by omega)
    cases hin : inH who week (hdAt hs (stateK hs who week - 1))
    · have h0 : stateO hs who week = 0 := stateO_none fun i x hi hx => by
        cases hin' : inH who week x
        · rfl
        · have h1 := only i hi (by rw [hget i x hx]; exact hin')
          rw [show stateK hs who week - 1 = i by omega, hget i x hx, hin'] at hin; cases hin
      rw [h0]
      cases hq : beqS (hdAt hs (stateK hs who week - 1)).player who
      · rfl
      · rw [if_pos rfl]
        split
        · rfl
        · rename_i hst
          exfalso
          have hp := beqS_iff.1 hq
          have : inH who week (hdAt hs (stateK hs who week - 1)) = true := by
            rw [inH_iff]
            refine ⟨hp, ?_, by omega⟩
            rcases Int.lt_or_le week (hdAt hs (stateK hs who week - 1)).start with h | h
            · exact absurd (.inr ⟨hp.symm, h⟩) hno
            · exact h
          rw [this] at hin; cases hin
    · have hin2 := hin
      rw [inH_iff] at hin
      obtain ⟨hp, h1, h2⟩ := hin
      rw [hp, beqS_self, if_pos rfl, if_neg (by omega)]
      refine (stateO_hit (k := stateK hs who week - 1) (h := hdAt hs (stateK hs who week - 1)) (by rw [hget _ _ hx]; exact hx) (fun i x hi hx => ?_) hin2).symm
      cases hin' : inH who week x
      · rfl
      · have := only i (by omega) (by rw [hget i x hx]; exact hin'); omega

theorem lk_bg (fs : List FD) (hk : ∀ f ∈ fs, f.home.size ≠ 0 ∧ f.away.size ≠ 0) (club : ByteArray) (week : Int) : lkA (bgL week fs) club = firstP fs club week := by
  induction fs with
  | nil => unfold firstP; split <;> rfl
  | cons f fs ih =>
    have ih := ih fun g hg => hk g (List.mem_cons_of_mem _ hg)
    obtain ⟨h1, h2⟩ := hk f List.mem_cons_self
    unfold bgL lkA firstP at ih ⊢
    unfold meets at ih ⊢
    rw [List.flatMap_cons, List.find?_append, List.filter_cons]
    cases hw : f.week == week
    · simpa using ih
    · by_cases hc : club.size = 0
      · have e1 : beqS f.home club = false := by
          cases hq : beqS f.home club
          · rfl
          · exact absurd (by rw [beqS_iff.1 hq]; exact hc) h1
        have e2 : beqS f.away club = false := by
          cases hq : beqS f.away club
          · rfl
          · exact absurd (by rw [beqS_iff.1 hq]; exact hc) h2
        simpa [e1, e2, hc] using ih
      · rw [if_neg hc] at ih ⊢
        cases hh : beqS f.home club
        · cases ha : beqS f.away club
          · simpa [hh, ha] using ih
          · simp [hh, ha]
        · simp [hh]
theorem fxF_keys {fs : List FD} {i : Nat} (h : fxF fs i = 0) : (fxAt fs i).home.size ≠ 0 ∧ (fxAt fs i).away.size ≠ 0 := by
  have h1 := firstE_all h (unlessE (keyB (fxAt fs i).home && keyB (fxAt fs i).away) 5) (by simp)
  cases hk : keyB (fxAt fs i).home && keyB (fxAt fs i).away
  · rw [hk] at h1; cases h1
  · rw [Bool.and_eq_true] at hk
    unfold keyB at hk
    simp only [Bool.and_eq_true, decide_eq_true_eq] at hk
    omega
theorem lk_first {fs : List FD} (h : chkFx fs = 0) (club : ByteArray) (week : Int) : lkA (bgL week fs) club = firstP fs club week := by
  refine lk_bg fs (fun f hf => ?_) club week
  obtain ⟨i, hi⟩ := List.getElem?_of_mem hf
  have := fxF_keys (eachE_all h i (List.getElem?_eq_some_iff.1 hi).1)
  rw [fxAt_some hi] at this
  exact this
theorem fieldR_eq {ps : List PD} {ss : List SD} {hs : List HD} {fs : List FD} {m : Nat} {at' : Int} (h : fieldE ps ss hs fs m at' = 0) : fieldR ps ss hs fs m at' = thoseL (fun p => pickB (firstP fs (clubN ss p.key m) m) (stateO hs p.key m) at') ps := by
  unfold fieldR
  rw [if_pos h]
  have h1 := firstE_all h (chkSt ps ss) (by simp)
  have h2 := firstE_all h (chkHd ps hs) (by simp)
  have h3 := firstE_all h (chkFx fs) (by simp)
  rw [show (fun p : PD => pickB (lkA (bgL m fs) (clubB ss p.key m)) (stateB hs p.key m) at') = fun p : PD => pickB (firstP fs (clubN ss p.key m) m) (stateO hs p.key m) at' from funext fun p => by rw [clubB_eq h1 p.key m, stateB_eq h2, lk_first h3]]
theorem frstP_eq {ps : List PD} {ss : List SD} {fs : List FD} {who : ByteArray} {m : Nat} (h : frstE ps ss fs who m = 0) : frstP ps ss fs who m = firstP fs (clubN ss who m) m := by
  unfold frstP
  rw [if_pos h, clubB_eq (firstE_all h (chkSt ps ss) (by simp)) who m, lk_first (firstE_all h (chkFx fs) (by simp))]
theorem stateR_eq {ps : List PD} {hs : List HD} {who : ByteArray} {week : Int} (h : stateE ps hs who week = 0) : stateR ps hs who week = stateO hs who week := by
  unfold stateR
  rw [if_pos h, stateB_eq (firstE_all h (chkHd ps hs) (by simp))]
theorem fieldR_le (ps : List PD) (ss : List SD) (hs : List HD) (fs : List FD) (week at' : Int) : (fieldR ps ss hs fs week at').length ≤ ps.length := by
  unfold fieldR
  split
  · exact thoseL_le _ _
  · simp
end Go.Proofs.YtiedmbgdmafhaaaGreatDoor
