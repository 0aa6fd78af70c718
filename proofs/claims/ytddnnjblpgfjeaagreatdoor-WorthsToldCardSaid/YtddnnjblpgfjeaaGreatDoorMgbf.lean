/- The law TeamsFielded. -/
import Derived.Test.YtddnnjblpgfjeaaGreatDoorMgbc
import Derived.Test.YtddnnjblpgfjeaaGreatDoorMgbe
import Derived.Test.YtddnnjblpgfjeaaGreatDoorMgaj
import Derived.Test.YtddnnjblpgfjeaaGreatDoorMgaw
/- The example of chapter 8. -/
namespace Go.Proofs.YtddnnjblpgfjeaaGreatDoor
open Go.RowKit

theorem pls_one (w : World) (x : PlD) : Pls (w.alloc (.cells #[.string x.pos, .int .i64 x.many] 125)) w.heap.size (.slice (some ⟨w.heap.size, 0, none⟩) 1 1) [x] := by
 refine ⟨by simp, by simp [plRow], .inr ⟨w.heap.size, 0, 1, _, (0, 0), by simp, ⟨Nat.le_refl _, by simp⟩, heap_alloc_new w _, fun i j u hu => ?_⟩⟩
 match i, hu with
 | 0, hu =>
  have hu' : (plRow x)[j]? = some u := by simpa using hu
  match j, hu' with
  | 0, h => simpa [plRow] using h
  | 1, h => simpa [plRow] using h
 | i + 1, hu => simp at hu
def A0 : AsD := ⟨⟨#[97]⟩, ⟨#[103, 107]⟩, 5⟩
def P0 : PlD := ⟨⟨#[103, 107]⟩, 1⟩
theorem one_rank (x : AsD) : rank [x] = [x] := List.perm_singleton.1 (rank_perm [x])
theorem one_field : fieldR [A0] [P0] = [A0] := by
 unfold fieldR ofR
 have e : ([A0].filter fun x => beqS x.pos P0.pos) = [A0] := by simp [A0, P0, beqS_self]
 simp only [List.flatMap_cons, List.flatMap_nil, e, one_rank]
 rfl
theorem one_team : teamE [A0] [P0] = 0 := by kernel_rfl
theorem one_sort (k : ByteArray) : sortL [k] = [k] := by
 unfold sortL
 simp [ofL_toL]
set_option maxRecDepth 100000 in
set_option maxHeartbeats 1000000 in
theorem valued_calls (w : World) : Calls Tryz.prog 37 #[] w (BoolIs true w) := by
 have hs : ∀ c ∈ [A0], SmallA c := fun c hc => by rw [List.mem_singleton.1 hc]; unfold SmallA A0; exact ⟨by decide, by decide, by decide, by decide⟩
 have hp : ∀ c ∈ [P0], SmallP c := fun c hc => by rw [List.mem_singleton.1 hc]; unfold SmallP P0; exact ⟨by decide, by decide, by decide⟩
 have ho : OnceP [P0] := (plR (teamR one_team).2).2.2
 have hr : RiseA [A0] := (asR (teamR one_team).1).2
 have hf : ∀ x ∈ [A0], FitA x := fun x hx => ((asR (teamR one_team).1).1 x hx).2
 obtain ⟨W, hW⟩ : ∃ W, W = (w.alloc (.cells #[.string ⟨#[97]⟩, .string ⟨#[103, 107]⟩, .int .i64 5] 78)).alloc (.cells #[.string ⟨#[103, 107]⟩, .int .i64 1] 125) := ⟨_, rfl⟩
 have hb : Below w.heap.size w W := by rw [hW]; exact below_step (below_alloc w _) (below_alloc _ _)
 have hA : Ass W w.heap.size (.slice (some ⟨w.heap.size, 0, none⟩) 1 1) [A0] := by rw [hW]; exact (ass_one w A0).below (below_alloc _ _)
 have hP : Pls W (w.alloc (.cells #[.string ⟨#[97]⟩, .string ⟨#[103, 107]⟩, .int .i64 5] 78)).heap.size (.slice (some ⟨w.heap.size + 1, 0, none⟩) 1 1) [P0] := by rw [hW]; have := pls_one (w.alloc (.cells #[.string ⟨#[97]⟩, .string ⟨#[103, 107]⟩, .int .i64 5] 78)) P0; simpa [P0] using this
 have D := Lib.hid (fieldedF_right _ _ _ _ [A0] [P0] W hA hs (by simp) hP hp (by simp) ho hf one_team)
 rw [sumC_all ho hr.once, names_all ho hr.once, one_field] at D
 have e3 : sumV [A0] = 5 := rfl
 have e4 : sortL (namesA [A0]) = [⟨#[97]⟩] := one_sort _
 rw [e3, e4] at D
 clear hs hp ho hr hf hA hP e3 e4
 go_enter Tryz.func37, Tryz.ntmps37
 go_wp2_with fail
 rw [← hW]
 refine D.out.mono ?_
 rintro e w1 ⟨v, rfl, hown, hb1⟩
 have hS := strs_of_owns hown (by simp)
 obtain ⟨va, vc, rfl⟩ := strs_shape hS
 have hb01 := below_step hb hb1
 have E := Lib.hid (equal_calls _ _ _ _ [⟨#[97]⟩] [⟨#[97]⟩] (w1.alloc (.cells #[.string ⟨#[97]⟩] 9)) (hS.below (below_alloc w1 _)) (strs_one w1 ⟨#[97]⟩) (by simp) (by simp))
 rw [decide_eq_true rfl] at E
 clear D hown hS hb hb1 hW
 simp only [List.length_singleton] at E ⊢
 go_wp2_with fail
 refine E.out.mono ?_
 rintro e w2 ⟨rfl, hb2⟩
 have hbe := below_step (below_step hb01 (below_alloc w1 _)) hb2
 go_wp2_with fail
 go_ret
 exact ⟨rfl, hbe⟩
end Go.Proofs.YtddnnjblpgfjeaaGreatDoor
namespace Go.Proofs.YtddnnjblpgfjeaaGreatDoor
open Go.RowKit

def S_a : ByteArray := ⟨#[97]⟩
theorem Below.grownB {w w' w2 : World} {B : Nat} (h : Below w.heap.size w w') (hB : w.heap.size ≤ B) (hg : w'.grownBy w2 (some B)) : Below w.heap.size w w2 := h.grown hg h.size (fun r hr => by cases hr; exact hB)
theorem digs {w W : World} (hD : DigB w) (hb : Below w.heap.size w W) {B : Nat} (hB : w.heap.size ≤ B) : ∀ w', W.grownBy w' (some B) → DigB w' := fun w' hg w2 hb2 => hD w2 (below_step (Below.grownB hb hB hg) hb2)
end Go.Proofs.YtddnnjblpgfjeaaGreatDoor
