/- slices.Clone at fills. -/
import Derived.Test.YthlfjfmlmcoihaaGreatMgat
import Derived.Test.YthlfjfmlmcoihaaGreatMgap
namespace Go.Proofs.YthlfjfmlmcoihaaGreat
open Go.RowKit

theorem info_fi : (Tryz.prog.info? 49).map (fun i => (i.zero, i.size, i.bytes)) = some (some (.agg #[.string ⟨#[]⟩, .string ⟨#[]⟩]), 2, 32) := by kernel_rfl
/-- Fills that the call owns. -/
def OwnFi (w : World) (base : Nat) (v : Value) (fs : List FiD) : Prop := w.ownsRow base 49 2 v fs.length (fs.map fiRow).flatten
set_option maxRecDepth 100000 in
set_option maxHeartbeats 1000000 in
theorem cloneFi_calls (lo : Nat) (v : Value) (fs : List FiD) (w : World) (hv : Fis w lo v fs) :
    Calls Tryz.prog 93 #[v] w fun e w' => ∃ v', OwnFi w' w.heap.size v' fs ∧ e = .returned v' ∧ Below w.heap.size w w' := by
  obtain ⟨i0, hi, hz0, hz1, hz2⟩ := info_parts info_fi
  have hnil := fun a n c => Lib.run_eql_slice_nil (P := Tryz.prog) w 30 49 a n c 0 0 Tryz.underlying30
  rcases hv.shape with ⟨rfl, h0⟩ | ⟨g, off, cap, cur, fr, rfl, hlc, hg, hc⟩
  · obtain rfl : fs = [] := by simpa using h0
    clear hv hi hz0 hz1 hz2
    go_enter Tryz.func93, Tryz.ntmps93
    go_wp2_with fail
    go_ret
    exact ⟨_, World.ownsRow_nil _ _ _ _, rfl, Below.refl _ _⟩
  · clear hlc
    have hn := hv.small
    simp only [List.length_map] at hn
    have hgl := lt_of_heap hg
    have hfl : ((fs.map fiRow).flatten).length = fs.length * 2 := by
      clear hc hn hg hv
      induction fs with
      | nil => rfl
      | cons f fs ih => simp [fiRow, ih]; omega
    have hflat : ∀ j u, (fs.map fiRow).flatten[j]? = some u → cur[off + j]? = some u := by
      intro j u hu
      have hj : j < fs.length * 2 := by rw [← hfl]; exact (List.getElem?_eq_some_iff.1 hu).1
      have hq : j / 2 < fs.length := by omega
      obtain ⟨f, hf⟩ : ∃ f, fs[j / 2]? = some f := ⟨_, List.getElem?_eq_getElem hq⟩
      have h1 : ((fs.map fiRow)[j / 2]?.getD [])[j % 2]? = (fiRow f)[j % 2]? := by simp [hf]
      obtain ⟨u', hu'⟩ : ∃ u', (fiRow f)[j % 2]? = some u' := ⟨_, List.getElem?_eq_getElem (show j % 2 < (fiRow f).length by simp [fiRow]; omega)⟩
      have h2 := flat_at (sz := 2) (fs.map fiRow) (by simp [fiRow]) (j / 2) (j % 2) u' (by rw [h1]; exact hu')
      rw [show j / 2 * 2 + j % 2 = j by omega, hu] at h2
      cases h2
      have h3 := hc (j / 2) (j % 2) u (by rw [h1]; exact hu')
      rwa [show off + j / 2 * 2 + j % 2 = off + j by omega] at h3
    have hown : OwnFi (w.alloc (.cells #[] 49)) w.heap.size (.slice (some ⟨w.heap.size, 0, none⟩) 0 0) [] := World.ownsRow_made w #[] 0 (Nat.le_refl _) (by unfold maxLen; omega) rfl
    have hnews : ∀ j u, (fs.map fiRow).flatten[j]? = some u → (w.alloc (.cells #[] 49)).cell? ((⟨g, off, none⟩ : Addr).add j) = some u := by
      intro j u hu
      have hadd : (⟨g, off, none⟩ : Addr).add j = ⟨g, off + j, none⟩ := by unfold Addr.add; split <;> simp_all
      rw [hadd, World.cell?_alloc_past _ _ _ hgl, cell_of_row w g _ cur _ fr hg]
      exact hflat j u hu
    have Hn := Lib.hid hnews
    have Hl := Lib.hid hfl
    clear hnews hc hflat hfl hg hv
    simp only [List.length_map]
    go_enter Tryz.func93, Tryz.ntmps93
    go_wp2_with (at_builtin; refine wpList_append_own _ rfl _ _ 30 rfl w.heap.size 49 i0 (.agg #[.string ⟨#[]⟩, .string ⟨#[]⟩]) 2 32 Tryz.underlying30 hi hz0 hz1 hz2 rfl (by decide) _ 0 [] rfl hown ⟨g, off, none⟩ fs.length cap ((fs.map fiRow).flatten) rfl Hl.out Hn.out ?c2 ?c3 ?c4 ?c5 ?_)
    case c2 =>
      intro u hu
      obtain ⟨r, hr, hur⟩ := List.mem_flatten.1 hu
      obtain ⟨f, _, rfl⟩ := List.mem_map.1 hr
      simp only [fiRow, List.mem_cons, List.not_mem_nil, or_false] at hur
      rcases hur with rfl | rfl <;> rfl
    case c3 => unfold maxLen; omega
    case c4 => omega
    case c5 => simp
    intro v' w4 hown4 hgrow _
    go_wp2_with fail
    go_ret
    refine ⟨_, ?_, rfl, (below_alloc w _).grown hgrow (by simp) fun r hr => (own_block hown r hr).1⟩
    unfold OwnFi
    simpa using hown4

end Go.Proofs.YthlfjfmlmcoihaaGreat
