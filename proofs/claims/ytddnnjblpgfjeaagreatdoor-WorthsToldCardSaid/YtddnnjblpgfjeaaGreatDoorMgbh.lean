/- What every law of this seat shares: the tables, the tape opened, the reading behind the call. -/
import Derived.Test.YtddnnjblpgfjeaaGreatDoorMgaj
import Derived.Test.YtddnnjblpgfjeaaGreatDoorMgah
import Derived.Test.YtddnnjblpgfjeaaGreatDoorMgaq
import Derived.Test.YtddnnjblpgfjeaaGreatDoorRows
import Derived.Test.YtddnnjblpgfjeaaGreatDoorCards
import Derived.Test.YtddnnjblpgfjeaaGreatDoorTie
import Derived.ProofKit
import Derived.OpenShut
import Derived.Deep.DeepHandedRow
import Derived.PinnedBridge
import Derived.Lib.LaidU8T
import Derived.Lib.LaidTab
import Derived.Lay
import Derived.LaidOnce
import Derived.SevenTiedAt
import Derived.SizedLaws
namespace Go.Proofs.YtddnnjblpgfjeaaGreatDoor
open Go.ChangeShapes Go.WideShapes Go.ChangeAt Go.RowKit Go.Shelf Go.Lib

theorem own : ownKnob Tryz.prog.godebug = none := by kernel_rfl
theorem laidOut : laidOutB Tryz.prog = true := by kernel_rfl
theorem bytesInt : Tryz.prog.bytesOf 3 = 8 := by kernel_rfl
theorem cellsInt : Tryz.prog.cellsOf 3 = 1 := by kernel_rfl
def laidL : List (String × DataW Unit) := [("math/bits.deBruijn32tab", Rows.laid_math_bits_deBruijn32tab), ("math/bits.deBruijn64tab", Rows.laid_math_bits_deBruijn64tab), ("internal/strconv.uint64pow10", Rows.laid_internal_strconv_uint64pow10), ("unicode/utf8.acceptRanges", Rows.laid_unicode_utf8_acceptRanges), ("unicode/utf8.first", Rows.laid_unicode_utf8_first)]
theorem pow_is : (Rows.laid_internal_strconv_uint64pow10 : DataW Unit) = Lib.tabData .u64 Lib.pow10Tab := by kernel_rfl
theorem pow_named : Tryz.prog.globalNamed "internal/strconv.uint64pow10" = some 1 := by kernel_rfl
theorem tab_below {w w' : World} (h : Lib.TabIs Tryz.prog w "internal/strconv.uint64pow10" .u64 Lib.pow10Tab) (hb : Below w.heap.size w w') : Lib.TabIs Tryz.prog w' "internal/strconv.uint64pow10" .u64 Lib.pow10Tab := by
 unfold Lib.TabIs World.var? at h ⊢
 rw [pow_named] at h ⊢
 simp only [Option.bind_some] at h ⊢
 have hlt : 1 < w.heap.size := by
  rcases Nat.lt_or_ge 1 w.heap.size with h' | h'
  ·exact h'
  ·rw [Array.getElem?_eq_none h'] at h; cases h
 rw [hb.block _ hlt]
 exact h
theorem dig_of {W : World} (hL : laidMet Tryz.prog laidL W) : DigB W := by
 obtain ⟨g, t, cs, fuel, p, hg, hty, hvar, hd⟩ := Lib.laidMet.reads hL (.tail _ (.tail _ (.head _)))
 obtain rfl := Option.some.inj (pow_named.symm.trans hg)
 obtain rfl := Option.some.inj ((show (Tryz.prog.globals[1]?).map (·.type) = some 227 by kernel_rfl).symm.trans hty)
 have hT : Lib.TabIs Tryz.prog W "internal/strconv.uint64pow10" .u64 Lib.pow10Tab := by
  unfold Lib.TabIs
  rw [hvar, ← Lib.cells_of_tab Tryz.underlying227 Tryz.underlying193 (by kernel_rfl) (by kernel_rfl) (pow_is ▸ hd)]
 exact fun w' hb => tab_below hT hb
theorem glob_of {W : World} (hL : laidMetH Tryz.prog laidL W) : DigB W := by
 rw [MakeChecks.laidMetH_plain _ _ _ (by kernel_rfl)] at hL
 exact dig_of hL

set_option maxRecDepth 100000 in
set_option maxHeartbeats 1000000 in
/-- WHAT THE WALK GIVES, FOR EVERY TAPE AND EVERY WORLD THAT HOLDS THE TABLES. -/
theorem contract (n : FuncId) (fn : Func) (hpar : fn.params = #[22]) (hres : fn.resultTypes = #[4]) (s : ChangeSpec) (hvars : s.vars = []) (hfn : ∀ (H : Type) (d : DataW H), s.fn H [d] = { results := [.lit (.bool true)], args := [d] })
  (law : ∀ (lv : Value) (w : World), Tape w lv → DigB w → Calls Tryz.prog n #[lv] w (BoolIs true w))
  (H : Type) (enc : TypeId × Value → H) (W : World) (base : Nat) (args : Array Value) (ds gs : List (DataW H)) (before : List MemPlace)
  (hval : ∀ (j : Nat) t v, fn.params[j]? = some t → args[j]? = some v → Value.okWide Tryz.prog W .any base t v)
  (hW : DataW.Whole enc Tryz.prog fn.params.toList s.vars false W args.toList ds gs before) (hL : laidMetH Tryz.prog laidL W) (ts : List TypeId) (hts : ts[0]? = some 22) (hsz : (DataW.weightsEach Tryz.prog ts (ds ++ gs)).all (· ≤ reachBytes) = true) :
  Calls Tryz.prog n args W fun e W' => ∃ v, e = .returned v ∧ s.post enc Tryz.prog fn false true false false W args v W' := by
 have hW' := hW
 obtain ⟨p, q, hA0, hV, rfl, hfz, hnd⟩ := hW
 have hA : DataW.TrodAll enc Tryz.prog W 0 (fun _ => true) true fn.params.toList args.toList ds p := hA0
 rw [hpar] at hA hval
 rw [hvars] at hV
 obtain ⟨v0, d0, rfl, rfl, h0⟩ := trodAll_one hA
 obtain ⟨rfl, rfl⟩ := trodVars_none hV
 obtain ⟨a0, len, cap, rfl⟩ := okWide_slice Tryz.underlying22 (hval 0 22 v0 rfl rfl)
 have h0k := h0
 obtain ⟨fuel0, hf⟩ := h0
 simp only [List.append_nil] at hW' hfz hnd
 have hlt : ∀ x ∈ p, x.block < W.heap.size := fun x hx => by simpa using hW'.lt x hx
 have hT : Tape W (.slice a0 len cap) := by
  rcases open_ints Tryz.underlying22 Tryz.underlying3 cellsInt hf with ⟨hcs, hx⟩ | ⟨a, len', cap', zs, hcs, _, hl, hm, hz, hx, hcell, hwz⟩
  ·simp [Value.cells] at hcs
   obtain ⟨rfl, rfl, rfl⟩ := hcs; exact .inl ⟨_, _, rfl⟩
  ·simp [Value.cells] at hcs
   obtain ⟨rfl, rfl, rfl⟩ := hcs; by_cases h0 : len = 0
   ·subst h0; exact .inl ⟨_, _, rfl⟩
   ·have hzl : zs.length = cap := by simpa using hz
    obtain ⟨b, off, rfl, hc⟩ := Go.ints_at hcell (by omega)
    have hb : b < W.heap.size := by
     have h1 := hc 0 (by omega)
     rcases Nat.lt_or_ge b W.heap.size with h | h
     ·exact h
     ·simp [World.cell?, Array.getElem?_eq_none h] at h1
    have hd : ([d0] : List (DataW H))[0]? = some (.slice (lits .i64 (zs.take len)) (lits .i64 (zs.drop len))) := by
     simp only [Prod.mk.injEq] at hx
     rw [hx.1]; rfl
    have hs := sized_slice hsz hts (by simpa using hd) Tryz.underlying22
    rw [bytesInt] at hs
    have hsl : len ≤ 140737488355328 := by
     simp [lits, reachBytes] at hs
     omega
    exact .inr ⟨b, off, len, cap, rfl, hb, hsl, fun j hj => ⟨_, hc j (by omega)⟩⟩
 refine (law _ W hT (glob_of hL)).mono fun e W' ⟨he, hb⟩ => ?_
 subst he
 refine ⟨_, rfl, _, _, _, [], p, [], hW', ?_, ?_, ?_, hb.frame _, fun h => by cases h⟩
 ·rw [hres, List.append_nil, hfn]; exact trodAll_mk1 (shut_bool Tryz.underlying4 _)
 ·rw [hpar, List.append_nil, hfn]; exact trodAll_mk1 (Below.trod laidOut (by kernel_rfl) (of_decide_eq_true (by kernel_rfl)) h0k hb hlt)
 ·rw [hvars, List.append_nil, hfn]; rfl
end Go.Proofs.YtddnnjblpgfjeaaGreatDoor
