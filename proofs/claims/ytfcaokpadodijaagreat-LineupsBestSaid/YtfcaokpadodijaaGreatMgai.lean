/- A law's contract lifted into the row's form. No tables: nothing is laid. -/
import Derived.Test.YtfcaokpadodijaaGreatMgaf
import Derived.Test.YtfcaokpadodijaaGreatMgah
import Derived.Test.YtfcaokpadodijaaGreatRows
import Derived.ProofKit
import Derived.OpenShut
import Derived.Deep.DeepHandedRow
import Derived.PinnedBridge
import Derived.Lay
import Derived.LaidOnce
import Derived.SevenTiedAt
import Derived.SizedLaws
namespace Go.Proofs.YtfcaokpadodijaaGreat
open Go.ChangeShapes Go.WideShapes Go.ChangeAt Go.RowKit Go.Shelf Go.Lib

theorem own : ownKnob Tryz.prog.godebug = none := by kernel_rfl
theorem laidOut : laidOutB Tryz.prog = true := by kernel_rfl
theorem bytesInt : Tryz.prog.bytesOf 3 = 8 := by kernel_rfl
theorem cellsInt : Tryz.prog.cellsOf 3 = 1 := by kernel_rfl
set_option maxRecDepth 100000 in
set_option maxHeartbeats 1000000 in
/-- WHAT THE WALK GIVES, FOR EVERY TAPE AND EVERY WORLD. -/
theorem contract (n : FuncId) (fn : Func) (hpar : fn.params = #[22]) (hres : fn.resultTypes = #[4]) (s : ChangeSpec) (hvars : s.vars = []) (hfn : ∀ (H : Type) (d : DataW H), s.fn H [d] = { results := [.lit (.bool true)], args := [d] })
  (law : ∀ (lv : Value) (w : World), Tape w lv → Calls Tryz.prog n #[lv] w (BoolIs true w))
  (H : Type) (enc : TypeId × Value → H) (W : World) (base : Nat) (args : Array Value) (ds gs : List (DataW H)) (before : List MemPlace)
  (hval : ∀ (j : Nat) t v, fn.params[j]? = some t → args[j]? = some v → Value.okWide Tryz.prog W .any base t v)
  (hW : DataW.Whole enc Tryz.prog fn.params.toList s.vars false W args.toList ds gs before) (ts : List TypeId) (hts : ts[0]? = some 22) (hsz : (DataW.weightsEach Tryz.prog ts (ds ++ gs)).all (· ≤ reachBytes) = true) :
  Calls Tryz.prog n args W fun e W' => ∃ v, e = .returned v ∧ s.post enc Tryz.prog fn false true false false W args v W' := by
 have hW' := hW
 obtain ⟨p, q, hA0, hV, rfl, hfz, hnd⟩ := hW
 have hA : DataW.TrodAll enc Tryz.prog W 0 (fun _ => true) true fn.params.toList args.toList ds p := hA0
 rw [hpar] at hA hval
 rw [hvars] at hV
 obtain ⟨v0, d0, rfl, rfl, h0⟩ := trodAll_one hA
 obtain ⟨rfl, rfl⟩ := trodVars_none hV
 obtain ⟨a0, len, cap, rfl⟩ := okWide_slice Tryz.underlying22 (hval 0 22 v0 rfl rfl)
 have h0k := h0
 obtain ⟨fuel0, hf⟩ := h0
 simp only [List.append_nil] at hW' hfz hnd
 have hlt : ∀ x ∈ p, x.block < W.heap.size := fun x hx => by simpa using hW'.lt x hx
 have hT : Tape W (.slice a0 len cap) := by
  rcases open_ints Tryz.underlying22 Tryz.underlying3 cellsInt hf with ⟨hcs, hx⟩ | ⟨a, len', cap', zs, hcs, _, hl, hm, hz, hx, hcell, hwz⟩
  ·simp [Value.cells] at hcs
   obtain ⟨rfl, rfl, rfl⟩ := hcs; exact .inl ⟨_, _, rfl⟩
  ·simp [Value.cells] at hcs
   obtain ⟨rfl, rfl, rfl⟩ := hcs; by_cases h0 : len = 0
   ·subst h0; exact .inl ⟨_, _, rfl⟩
   ·have hzl : zs.length = cap := by simpa using hz
    obtain ⟨b, off, rfl, hc⟩ := Go.ints_at hcell (by omega)
    have hb : b < W.heap.size := by
     have h1 := hc 0 (by omega)
     rcases Nat.lt_or_ge b W.heap.size with h | h
     ·exact h
     ·simp [World.cell?, Array.getElem?_eq_none h] at h1
    have hd : ([d0] : List (DataW H))[0]? = some (.slice (lits .i64 (zs.take len)) (lits .i64 (zs.drop len))) := by
     simp only [Prod.mk.injEq] at hx
     rw [hx.1]; rfl
    have hs := sized_slice hsz hts (by simpa using hd) Tryz.underlying22
    rw [bytesInt] at hs
    have hsl : len ≤ 140737488355328 := by
     simp [lits, reachBytes] at hs
     omega
    exact .inr ⟨b, off, len, cap, rfl, hb, hsl, fun j hj => ⟨_, hc j (by omega)⟩⟩
 refine (law _ W hT).mono fun e W' ⟨he, hb⟩ => ?_
 subst he
 refine ⟨_, rfl, _, _, _, [], p, [], hW', ?_, ?_, ?_, hb.frame _, fun h => by cases h⟩
 ·rw [hres, List.append_nil, hfn]; exact trodAll_mk1 (shut_bool Tryz.underlying4 _)
 ·rw [hpar, List.append_nil, hfn]; exact trodAll_mk1 (Below.trod laidOut (by kernel_rfl) (of_decide_eq_true (by kernel_rfl)) h0k hb hlt)
 ·rw [hvars, List.append_nil, hfn]; rfl
end Go.Proofs.YtfcaokpadodijaaGreat
