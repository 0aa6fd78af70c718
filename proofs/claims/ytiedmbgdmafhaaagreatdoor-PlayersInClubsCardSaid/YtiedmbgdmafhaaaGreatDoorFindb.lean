/- Find, and the law's one example. -/
import Derived.Test.YtiedmbgdmafhaaaGreatDoorFind
namespace Go.Proofs.YtiedmbgdmafhaaaGreatDoor
open Go.RowKit

set_option maxRecDepth 100000 in
set_option maxHeartbeats 2000000 in
theorem findF1_calls (ct lo : Nat) (k name : ByteArray) (x vw : Value) (wanted : List ByteArray) (w : World) (hw : Strs w lo vw wanted) (hwn : wanted.length ≤ 1000000) (hG : Glob w) (hn : WordsOk name)
    (h1 : w.cell? ⟨ct, 0, none⟩ = some vw) :
    Calls Tryz.prog 138 #[.agg #[.string k, .string name, x], .pointer (some ⟨ct, 0, none⟩)] w (BoolIs (fitsB wanted (wordsL name)) w) := by
  obtain ⟨wa, wc, rfl⟩ := strs_shape' hw
  obtain ⟨W, hW⟩ : ∃ W, W = w.alloc (.cells #[.string k, .string name, x] 86) := ⟨_, rfl⟩
  have hwW : Below w.heap.size w W := by rw [hW]; exact below_alloc w _
  have x1 : W.cell? ⟨w.heap.size, 1, none⟩ = some (.string name) := by rw [hW, World.cell?_alloc_at _ _ _ _ rfl]; rfl
  have c1 := below_cell hwW h1
  have hwS := hw.below hwW
  have hGW := hG.below hwW
  have HS := Lib.hid (show ∀ w', Below W.heap.size W w' → (Below W.heap.size W w' ∧ Strs w' lo (.slice wa wanted.length wc) wanted ∧ Glob w' ∧ w'.cell? ⟨w.heap.size, 1, none⟩ = some (.string name) ∧ w'.cell? ⟨ct, 0, none⟩ = some (.slice wa wanted.length wc)) from fun w' hb => ⟨hb, hwS.below hb, hGW.below hb, below_cell hb x1, below_cell hb c1⟩)
  have hb0 := (Below.refl W.heap.size W).drew
  have HN := Lib.hid hn
  clear hw hG x1 c1 hwS hGW h1 hn
  go_enter Tryz.func138, Tryz.ntmps138
  go_upto_region 1 with fail
  rw [← hW]
  clear hW
  refine wp_region_held_drew (S := fun w' => Below W.heap.size W w' ∧ Strs w' lo (.slice wa wanted.length wc) wanted ∧ Glob w' ∧ w'.cell? ⟨w.heap.size, 1, none⟩ = some (.string name) ∧ w'.cell? ⟨ct, 0, none⟩ = some (.slice wa wanted.length wc)) (by kernel_rfl) ?_ (fun hHeld => ?_)
  · (exact HS.out _ (by first | assumption | exact hHeld.1 | exact below_step hHeld.1 (by assumption) | exact below_step hHeld.1 (below_alloc _ _)))
  refine take_at 0 4 (v := ?_) rfl rfl (by kernel_rfl) (by kernel_rfl) (by kernel_rfl) (fun _ _ _ h => h) (by rfl) ?y0 (by assumption) ?r0
  case y0 =>
    intro w hSw
    try dsimp only at hSw
    go_simp
    try with_reducible rfl
  simp only [List.set_cons_zero, List.set_cons_succ]
  refine take_at 1 5 (v := ?_) rfl rfl (by kernel_rfl) (by kernel_rfl) (by kernel_rfl) (fun _ _ _ h => h) (by rfl) ?y1 (by assumption) ?r1
  case y1 =>
    intro w hSw
    try dsimp only at hSw
    go_simp
    try with_reducible rfl
  simp only [List.set_cons_zero, List.set_cons_succ]
  refine take_at 2 6 (v := ?_) rfl rfl (by kernel_rfl) (by kernel_rfl) (by kernel_rfl) (fun _ _ _ h => h) (by rfl) ?y2 (by assumption) ?r2
  case y2 =>
    intro w hSw
    try dsimp only at hSw
    go_simp
    try with_reducible rfl
  simp only [List.set_cons_zero, List.set_cons_succ]
  refine run_at 3 rfl (by kernel_rfl) (by rfl) (fun K hK => ?_)
  go_simp
  refine (words_calls name _ HN.out (by exact hHeld.2.2.1)).mono ?_
  rintro e w' ⟨vn, rfl, hvn, hb⟩
  have hlen := HN.out.2.2.2
  go_wp2_with fail
  refine hK.out _ _ ?_ (fun hHeld => ?_)
  · (exact HS.out _ (by first | assumption | exact hHeld.1 | exact below_step hHeld.1 (by assumption) | exact below_step hHeld.1 (below_alloc _ _)))
  clear hK K
  try simp only [Act.put, List.setIfInBounds_toArray, List.set_cons_zero, List.set_cons_succ]
  refine run_at 4 rfl (by kernel_rfl) (by rfl) (fun K hK => ?_)
  go_simp
  refine (fits_calls lo _ _ _ wanted (wordsL name) _ (by exact hHeld.2.1) (by exact hvn) hwn hlen).mono ?_
  rintro e w' ⟨rfl, hb⟩
  go_wp2_with fail
  refine hK.out _ _ ?_ (fun hHeld => ?_)
  · (exact HS.out _ (by first | assumption | exact hHeld.1 | exact below_step hHeld.1 (by assumption) | exact below_step hHeld.1 (below_alloc _ _)))
  clear hK K
  try simp only [Act.put, List.setIfInBounds_toArray, List.set_cons_zero, List.set_cons_succ]
  refine take_at 5 3 (v := ?_) rfl rfl (by kernel_rfl) (by kernel_rfl) (by kernel_rfl) (fun _ _ _ h => h) (by rfl) ?y5 (by assumption) ?r5
  case y5 =>
    intro w hSw
    try dsimp only at hSw
    go_simp
    try with_reducible rfl
  simp only [List.set_cons_zero, List.set_cons_succ]
  refine wpAnyH_done (by kernel_rfl) ?_ _
  go_wp2_with fail
  go_ret
  exact ⟨rfl, below_step hwW hHeld.1⟩

def findE (ps : List PD) (q : ByteArray) : Int := firstE [chkPs ps, unlessE (titleB q) 3]
def findR (ps : List PD) (q : ByteArray) : List ByteArray := if findE ps q = 0 then thoseL (fun p => fitsB (wordsL q) (wordsL p.name)) ps else []
set_option maxRecDepth 100000 in
set_option maxHeartbeats 2000000 in
theorem findL_calls (lo : Nat) (v : Value) (ps : List PD) (q : ByteArray) (w : World) (hp : Plays w lo v ps) (hs : ∀ p ∈ ps, SmallP p ∧ WordsOk p.name) (hn : ps.length ≤ 1000000) (hG : Glob w) (hq : WordsOk q) :
    Calls Tryz.prog 59 #[v, .string q] w (MadeSE (findR ps q) (findE ps q) w) := by
  obtain ⟨pa, pc, rfl⟩ := plays_shape hp
  have HE := Lib.hid (show findE ps q = firstE [chkPs ps, unlessE (titleB q) 3] from rfl)
  have HR := Lib.hid (show findR ps q = if findE ps q = 0 then thoseL (fun p => fitsB (wordsL q) (wordsL p.name)) ps else [] from rfl)
  generalize findE ps q = E at HE HR ⊢
  generalize findR ps q = R at HR ⊢
  have HP := Lib.hid hp
  have HG := Lib.hid hG
  have HQ := Lib.hid hq
  have HSm := Lib.hid hs
  clear hp hG hq hs
  go_enter Tryz.func59, Tryz.ntmps59
  go_wp2_with fail
  refine (checkPlayers_calls lo _ ps w HP.out (fun p h => (HSm.out p h).1) hn HG.out).mono ?_
  rintro e w1 ⟨rfl, hb1⟩
  go_wp2_with fail
  refine (title_calls q w1 HQ.out.1 (HG.out.below hb1)).mono ?_
  rintro e w2 ⟨rfl, hb2⟩
  go_wp2_with fail
  refine (unless_calls _ _ _).mono ?_
  rintro e w' ⟨rfl, rfl⟩
  have hb12 := below_step hb1 hb2
  clear hb1 hb2
  go_wp2_with fail
  refine (orE_calls _ 0 2 [chkPs ps, unlessE (titleB q) 3] _ (by simp) (by exact nums2 _ _ _ _)).mono ?_
  rintro e w3 ⟨rfl, hw3⟩
  rw [← HE.out]
  have hb3 := below_step hb12 (below_alloc w2 (.cells #[.int .i64 (chkPs ps), .int .i64 (unlessE (titleB q) 3)] 32))
  rw [hw3] at hb3
  clear hw3 hb12
  by_cases hz : E = 0
  · have e1 : (E != 0) = false := by simp [hz]
    have Hz := Lib.hid hz
    clear hz
    go_wp2_with fail
    refine (words_calls q w3 HQ.out (HG.out.below hb3)).mono ?_
    rintro e w4 ⟨vw, rfl, hvw, hb4⟩
    obtain ⟨wa, wc, rfl⟩ := strs_shape' hvw
    have hbw4 := below_step hb3 hb4
    have HX := Lib.hid (show ∀ W', Below (w4.alloc (.cells #[.slice wa (wordsL q).length wc] 35)).heap.size (w4.alloc (.cells #[.slice wa (wordsL q).length wc] 35)) W' → Strs W' w3.heap.size (.slice wa (wordsL q).length wc) (wordsL q) ∧ Glob W' ∧ W'.cell? ⟨w4.heap.size, 0, none⟩ = some (.slice wa (wordsL q).length wc) from fun W' hb =>
      ⟨(hvw.below (below_alloc w4 _)).below hb, ((HG.out.below hbw4).below (below_alloc w4 _)).below hb, below_cell hb (by rw [World.cell?_alloc_at _ _ _ _ rfl]; rfl)⟩)
    have HP4 := Lib.hid ((HP.out.below hbw4).below (below_alloc w4 (.cells #[.slice wa (wordsL q).length wc] 35)))
    have hbo := below_step hbw4 (below_alloc w4 (.cells #[.slice wa (wordsL q).length wc] 35))
    clear hvw hb3 hb4 hbw4
    go_wp2_with fail
    refine (those_calls 138 #[.pointer (some ⟨w4.heap.size, 0, none⟩)] (enters_of Tryz.func138 (by kernel_rfl) rfl) (fun p => fitsB (wordsL q) (wordsL p.name)) lo _ ps _ HP4.out (fun W' i p x hi hb' hx => ?s1)).mono ?_
    case s1 =>
      obtain ⟨a1, a2, a3⟩ := HX.out W' hb'
      exact findF1_calls _ _ p.key p.name x _ (wordsL q) W' a1 HQ.out.2.2.2 a2 (HSm.out p (List.mem_of_getElem? hi)).2 a3
    rintro e w5 ⟨v5, ho, rfl, hb5⟩
    go_wp2_with fail
    go_ret2
    refine ⟨v5, ?_, ?_, below_step hbo hb5⟩
    · rw [HR.out, if_pos Hz.out]; exact owns_mono ho hbo.size
    · rw [Hz.out]; rfl
  · have e1 : (E != 0) = true := by simp [hz]
    have Hz := Lib.hid hz
    clear hz
    go_wp2_with fail
    go_ret2
    refine ⟨.slice none 0 0, ?_, rfl, hb3⟩
    rw [HR.out, if_neg Hz.out]
    exact World.ownsRow_nil _ _ _ _
end Go.Proofs.YtiedmbgdmafhaaaGreatDoor
