/- Rules, statistics and lines in memory. -/
import Derived.Test.YthlfjfmlmcoihaaGreatMgam
import Derived.Test.YthlfjfmlmcoihaaGreatMgan
import Derived.Test.YthlfjfmlmcoihaaGreatMgaj
import Derived.Test.YthlfjfmlmcoihaaGreatMgac
/- Fractions on the reference's side. -/
namespace Go.Proofs.YthlfjfmlmcoihaaGreat
open Go.RowKit

theorem gcdI_step' (a b : Int) : gcdI b (a.tmod b) = gcdI a b := by rw [gcdI_comm, gcdI_step, gcdI_comm]
set_option maxRecDepth 100000 in
set_option maxHeartbeats 1000000 in
theorem divisorR_calls (n d : Int) (w : World) (hn : Int64 n) (ha : Int64 d) (h0 : 0 < d) :
    Calls Tryz.prog 118 #[.int .i64 n, .int .i64 d] w fun e w' => e = .returned (.int .i64 (gcdI n d)) ∧ Below w.heap.size w w' := by
  have HG := Lib.hid (gcdI_le (a := n) h0)
  have hG := Lib.hid (⟨gcdI n d, rfl⟩ : ∃ G, G = gcdI n d)
  obtain ⟨G, hG⟩ := hG.out
  rw [← hG] at HG ⊢
  have H1 := Lib.hid hG
  have Hn := Lib.hid hn
  have Ha := Lib.hid ha
  clear hG hn ha h0
  go_enter Tryz.func118, Tryz.ntmps118
  go_wp2_with fail
  go_loopw [0, 1] (fun t s wr => ∃ a b : Int, t = .int .i64 a ∧ s = .int .i64 b ∧ Hid (Int64 a ∧ Int64 b ∧ gcdI a b = G) ∧ Below w.heap.size w wr) (fun _ s _ => (intOf s).natAbs)
  case atStart => exact ⟨n, d, rfl, rfl, Lib.hid ⟨Hn.out, Ha.out, H1.out.symm⟩, Below.refl _ _⟩
  case round =>
    obtain ⟨a, b, rfl, rfl, H, hb⟩ := hrel
    by_cases hz : b = 0
    · subst hz
      have hb' : (a.natAbs : Int) = G := by rw [← H.out.2.2, gcdI_comm, gcdI_zero]
      have hr := Ha.out
      have hG := HG.out
      unfold Int64 at hr
      have hm : max a (-a) = G := by omega
      have Hm := Lib.hid hm
      clear hm
      go_wp2_with fail
      go_ret
      exact ⟨ret_int Hm.out, hb⟩
    · have hne : (b != 0) = true := by simp [hz]
      have hr := tmod_64 (b := a) hz H.out.2.1
      have Hs := Lib.hid (tmod_small b a hz)
      unfold Int64 at hr
      obtain ⟨hr1, hr2⟩ := hr
      have Hz := Lib.hid hz
      go_wp2_with fail
      go_region
      go_wp2_with fail
      go_roundw
      case rel => exact ⟨_, _, rfl, rfl, Lib.hid ⟨H.out.2.1, tmod_64 Hz.out H.out.2.1, (gcdI_step' a b).trans H.out.2.2⟩, hb.drew⟩
      case measure => simp only [intOf]; exact Hs.out

set_option maxRecDepth 100000 in
set_option maxHeartbeats 1000000 in
theorem lowest_calls (n d : Int) (w : World) (hn : Int64 n) (hd : Int64 d) (h0 : 0 < d) :
    Calls Tryz.prog 70 #[.int .i64 n, .int .i64 d] w fun e w' => e = .returned (frV (lowF n d)) ∧ Below w.heap.size w w' := by
  have hG := gcdI_pos (a := n) h0
  have hg1 := tdiv_64 hn hG
  have hg2 := tdiv_64 hd hG
  have H := Lib.hid (show frV (lowF n d) = .agg #[.int .i64 (n.tdiv (gcdI n d)), .int .i64 (d.tdiv (gcdI n d))] from rfl)
  have C := fun w => Lib.hid (divisorR_calls n d w hn hd h0)
  generalize gcdI n d = G at hG hg1 hg2 H C
  generalize lowF n d = L at H ⊢
  unfold Int64 at *
  have hne : G ≠ 0 := by omega
  have hb0 := below_alloc w (.cells #[.int .i64 0, .int .i64 0] 34)
  go_enter Tryz.func70, Tryz.ntmps70
  go_wp2_with fail
  refine (C _).out.mono ?_
  rintro e w' ⟨rfl, hb⟩
  have hx := cells_later (heap_alloc_new w _) hb
  have z0 := cell_at hx 0 rfl
  have z1 := cell_at hx 1 rfl
  have f0 := free_of hx 0
  have f1 := free_of hx 1
  have Hb := Lib.hid (below_step hb0 hb)
  clear hx hb hb0 C
  go_wp2_with fail
  go_region
  go_wp2_with fail
  try simp only [Exit.inBlock, Exit.then]
  refine bodyPost_ret (v := .agg #[.int .i64 (n.tdiv G), .int .i64 (d.tdiv G)]) ?_ rfl ⟨ret_val H.out.symm, ((Hb.out.drew).setCell (p := ⟨w.heap.size, 0, none⟩) (Nat.le_refl _) _).setCell (p := ⟨w.heap.size, 1, none⟩) (Nat.le_refl _) _⟩
  rw [results_cell1 rfl]
  go_simp
set_option maxHeartbeats 400000 in
theorem ofHundredthsR_calls (n : Int) (w : World) (hn : Int64 n) :
    Calls Tryz.prog 20 #[.int .i64 n] w fun e w' => e = .returned (frV (lowF n 100)) ∧ Below w.heap.size w w' := by
  have hb0 := below_alloc w (.cells #[.int .i64 0, .int .i64 0] 34)
  go_enter Tryz.func20, Tryz.ntmps20
  go_wp2_with fail
  refine (lowest_calls n 100 _ hn (by unfold Int64; omega) (by omega)).mono ?_
  rintro e w' ⟨rfl, hb⟩
  rw [show frV (lowF n 100) = .agg #[.int .i64 (lowF n 100).1, .int .i64 (lowF n 100).2] from rfl]
  have hx := cells_later (heap_alloc_new w _) hb
  have z0 := cell_at hx 0 rfl
  have z1 := cell_at hx 1 rfl
  have f0 := free_of hx 0
  have f1 := free_of hx 1
  have Hb := Lib.hid (below_step hb0 hb)
  clear hx hb hb0
  obtain ⟨L, hL⟩ : ∃ L, L = lowF n 100 := ⟨_, rfl⟩
  have HL := Lib.hid (show Ending.returned (.agg #[.int .i64 L.1, .int .i64 L.2]) = Ending.returned (frV (lowF n 100)) by rw [hL]; rfl)
  rw [← hL]
  clear hL
  go_wp2_with fail
  try simp only [Exit.inBlock, Exit.then]
  refine bodyPost_ret (v := .agg #[.int .i64 L.1, .int .i64 L.2]) ?_ rfl ⟨HL.out, (Hb.out.setCell (p := ⟨w.heap.size, 0, none⟩) (Nat.le_refl _) _).setCell (p := ⟨w.heap.size, 1, none⟩) (Nat.le_refl _) _⟩
  rw [results_cell1 rfl]
  go_simp
set_option maxHeartbeats 400000 in
theorem hundredthsR_calls (n d : Int) (w : World) (hd : 0 < d) (h1 : Int64 (n * ((100 : Int).tdiv d))) (h2 : d ≤ 100) :
    Calls Tryz.prog 71 #[frV (n, d)] w fun e w' => e = .returned (.int .i64 (n * ((100 : Int).tdiv d))) ∧ Below w.heap.size w w' := by
  unfold frV Int64 at *
  have hd0 : d ≠ 0 := by omega
  have h3 := tdiv_64 (show Int64 100 by unfold Int64; omega) hd
  unfold Int64 at h3
  go_enter Tryz.func71, Tryz.ntmps71
  go_wp2_with fail
  go_quiet (fail)
  go_wp2_with fail
  go_ret
  exact ⟨rfl, below_drewN (below_alloc w _) nq⟩

set_option maxRecDepth 100000 in
set_option maxHeartbeats 1000000 in
theorem pointsFault_calls (n d : Int) (w : World) (hn : Int64 n) (hd : Int64 d) :
    Calls Tryz.prog 65 #[frV (n, d), .int .i64 10000] w fun e w' => e = .returned (.int .i64 (wrongF n d 10000)) ∧ Below w.heap.size w w' := by
  have hb := below_alloc w (.cells #[.int .i64 n, .int .i64 d] 34)
  unfold frV
  by_cases h0 : d < 1
  · have HW := Lib.hid (show wrongF n d 10000 = 3 by unfold wrongF; rw [if_pos (Or.inl (by omega))])
    go_enter Tryz.func65, Tryz.ntmps65
    go_wp2_with fail
    go_ret
    exact ⟨ret_int HW.out.symm, hb⟩
  · have C := fun w => Lib.hid (divisorR_calls n d w hn hd (by omega))
    have Hd := Lib.hid hd
    have HS := fun (w' : World) (h : Below (w.alloc (.cells #[.int .i64 n, .int .i64 d] 34)).heap.size (w.alloc (.cells #[.int .i64 n, .int .i64 d] 34)) w') => Lib.hid (show w'.cell? ⟨w.heap.size, 0, none⟩ = some (.int .i64 n) ∧ w'.cell? ⟨w.heap.size, 1, none⟩ = some (.int .i64 d) ∧ Below w.heap.size w w' from ⟨cell_at (cells_later (heap_alloc_new w _) h) 0 rfl, cell_at (cells_later (heap_alloc_new w _) h) 1 rfl, below_step hb h⟩)
    have Hb := Lib.hid hb
    clear hb hd
    by_cases h1 : gcdI n d = 1
    · rw [h1] at C
      have H1 := Lib.hid h1
      clear h1
      by_cases h2 : (100 : Int) % d = 0
      · have h3 := den_100 h2
        by_cases h4 : n < -10000 * d
        · have HW := Lib.hid (show wrongF n d 10000 = 1 by have h1 := H1.out; unfold wrongF; rw [if_neg (by omega), if_pos (by omega)])
          clear hn
          go_enter Tryz.func65, Tryz.ntmps65
          go_wp2_with fail
          refine (C _).out.mono ?_
          rintro e w' ⟨rfl, hb⟩
          obtain ⟨z0, z1, hb⟩ := (HS w' hb).out
          go_wp2_with fail
          go_ret
          exact ⟨ret_int HW.out.symm, hb⟩
        · by_cases h5 : n > 10000 * d
          · have HW := Lib.hid (show wrongF n d 10000 = 1 by have h1 := H1.out; unfold wrongF; rw [if_neg (by omega), if_pos (by omega)])
            clear hn
            go_enter Tryz.func65, Tryz.ntmps65
            go_wp2_with fail
            refine (C _).out.mono ?_
            rintro e w' ⟨rfl, hb⟩
            obtain ⟨z0, z1, hb⟩ := (HS w' hb).out
            go_wp2_with fail
            go_ret
            exact ⟨ret_int HW.out.symm, hb⟩
          · have HW := Lib.hid (show wrongF n d 10000 = 0 by have h1 := H1.out; unfold wrongF; rw [if_neg (by omega), if_neg (by omega)])
            clear hn
            go_enter Tryz.func65, Tryz.ntmps65
            go_wp2_with fail
            refine (C _).out.mono ?_
            rintro e w' ⟨rfl, hb⟩
            obtain ⟨z0, z1, hb⟩ := (HS w' hb).out
            go_wp2_with fail
            go_ret
            exact ⟨ret_int HW.out.symm, hb⟩
      · have HW := Lib.hid (show wrongF n d 10000 = 1 by have h1 := H1.out; unfold wrongF; rw [if_neg (by omega), if_pos (by omega)])
        have h5 : ((100 : Int) % d != 0) = true := by simpa using h2
        have hr1 := Int.emod_nonneg 100 (show d ≠ 0 by omega)
        have hr2 := Int.emod_lt_of_pos 100 (show 0 < d by omega)
        have h6 : d ≠ 0 := by omega
        have hd2 : d ≤ 9223372036854775807 := Hd.out.2
        clear h2 hn
        go_enter Tryz.func65, Tryz.ntmps65
        go_wp2_with fail
        refine (C _).out.mono ?_
        rintro e w' ⟨rfl, hb⟩
        obtain ⟨z0, z1, hb⟩ := (HS w' hb).out
        go_wp2_with fail
        go_ret
        exact ⟨ret_int HW.out.symm, hb⟩
    · have HW := Lib.hid (show wrongF n d 10000 = 3 by unfold wrongF; rw [if_pos (Or.inr h1)])
      have h5 : (gcdI n d != 1) = true := by simpa using h1
      clear h1 hn
      generalize gcdI n d = G at C h5
      go_enter Tryz.func65, Tryz.ntmps65
      go_wp2_with fail
      refine (C _).out.mono ?_
      rintro e w' ⟨rfl, hb⟩
      obtain ⟨z0, z1, hb⟩ := (HS w' hb).out
      go_wp2_with fail
      go_ret
      exact ⟨ret_int HW.out.symm, hb⟩
end Go.Proofs.YthlfjfmlmcoihaaGreat
namespace Go.Proofs.YthlfjfmlmcoihaaGreat
open Go.RowKit

/-- A rule. -/
structure RD where
  key : ByteArray
  stat : ByteArray
  pos : ByteArray
  kind : Int
  many : Int
  num : Int
  den : Int
/-- How often something was done. -/
structure TD where
  name : ByteArray
  count : Int
/-- A line. -/
structure LD where
  player : ByteArray
  week : Int
  stats : List TD

def rlRow (r : RD) : List Value := [.string r.key, .string r.stat, .string r.pos, .int .i64 r.kind, .int .i64 r.many, .int .i64 r.num, .int .i64 r.den]
def rlV (r : RD) : Value := .agg #[.string r.key, .string r.stat, .string r.pos, .int .i64 r.kind, .int .i64 r.many, .int .i64 r.num, .int .i64 r.den]
def stRow (t : TD) : List Value := [.string t.name, .int .i64 t.count]
def stV (t : TD) : Value := .agg #[.string t.name, .int .i64 t.count]
def lnV (l : LD) (x : Value) : Value := .agg #[.string l.player, .int .i64 l.week, x]
def Rls (w : World) (lo : Nat) (v : Value) (rs : List RD) : Prop := Rows w 119 lo 7 v (rs.map rlRow)
def Tds (w : World) (lo : Nat) (v : Value) (ts : List TD) : Prop := Rows w 122 lo 2 v (ts.map stRow)
def lnRows (ls : List LD) (svs : List Value) : List (List Value) := List.zipWith (fun (l : LD) (x : Value) => [.string l.player, .int .i64 l.week, x]) ls svs
def Lns (w : World) (lo : Nat) (v : Value) (ls : List LD) : Prop :=
  ∃ svs : List Value, svs.length = ls.length ∧ Rows w 125 lo 3 v (lnRows ls svs) ∧ ∀ (i : Nat) (x : Value) (l : LD), svs[i]? = some x → ls[i]? = some l → Tds w lo x l.stats
def SmallR (r : RD) : Prop := r.key.size ≤ 1000 ∧ r.stat.size ≤ 1000 ∧ r.pos.size ≤ 1000 ∧ Int64 r.kind ∧ Int64 r.many ∧ Int64 r.num ∧ Int64 r.den
def SmallT (t : TD) : Prop := t.name.size ≤ 1000 ∧ Int64 t.count
def SmallL (l : LD) : Prop := l.player.size ≤ 1000 ∧ Int64 l.week ∧ l.stats.length ≤ 1000 ∧ ∀ t ∈ l.stats, SmallT t

theorem rls_at {w : World} {lo : Nat} {v : Value} {rs : List RD} (h : Rls w lo v rs) :
    (v = .slice none 0 0 ∧ rs = []) ∨ ∃ g off cap, v = .slice (some ⟨g, off, none⟩) rs.length cap ∧ lo ≤ g ∧ g < w.heap.size ∧ rs.length ≤ 1000000 ∧
      ∀ (i : Nat) (r : RD), rs[i]? = some r → w.cell? ⟨g, off + i * 7, none⟩ = some (.string r.key) ∧ w.cell? ⟨g, off + i * 7 + 1, none⟩ = some (.string r.stat) ∧ w.cell? ⟨g, off + i * 7 + 2, none⟩ = some (.string r.pos) ∧
        w.cell? ⟨g, off + i * 7 + 3, none⟩ = some (.int .i64 r.kind) ∧ w.cell? ⟨g, off + i * 7 + 4, none⟩ = some (.int .i64 r.many) ∧ w.cell? ⟨g, off + i * 7 + 5, none⟩ = some (.int .i64 r.num) ∧ w.cell? ⟨g, off + i * 7 + 6, none⟩ = some (.int .i64 r.den) := by
  rcases rows_at h with ⟨e1, e2⟩ | ⟨g, off, cap, e1, e2, e3, hc⟩
  · exact .inl ⟨e1, by simpa using e2⟩
  · refine .inr ⟨g, off, cap, by simpa using e1, e2, e3, by simpa using h.small, fun i r hr => ?_⟩
    have hx : ∀ (j : Nat) (u : Value), (rlRow r)[j]? = some u → w.cell? ⟨g, off + i * 7 + j, none⟩ = some u := fun j u hu => hc i j u (by simpa [hr] using hu)
    exact ⟨hx 0 _ rfl, hx 1 _ rfl, hx 2 _ rfl, hx 3 _ rfl, hx 4 _ rfl, hx 5 _ rfl, hx 6 _ rfl⟩
theorem tds_at {w : World} {lo : Nat} {v : Value} {ts : List TD} (h : Tds w lo v ts) :
    (v = .slice none 0 0 ∧ ts = []) ∨ ∃ g off cap, v = .slice (some ⟨g, off, none⟩) ts.length cap ∧ lo ≤ g ∧ g < w.heap.size ∧ ts.length ≤ 1000000 ∧
      ∀ (i : Nat) (t : TD), ts[i]? = some t → w.cell? ⟨g, off + i * 2, none⟩ = some (.string t.name) ∧ w.cell? ⟨g, off + i * 2 + 1, none⟩ = some (.int .i64 t.count) := by
  rcases rows_at h with ⟨e1, e2⟩ | ⟨g, off, cap, e1, e2, e3, hc⟩
  · exact .inl ⟨e1, by simpa using e2⟩
  · refine .inr ⟨g, off, cap, by simpa using e1, e2, e3, by simpa using h.small, fun i t ht => ?_⟩
    have hx : ∀ (j : Nat) (u : Value), (stRow t)[j]? = some u → w.cell? ⟨g, off + i * 2 + j, none⟩ = some u := fun j u hu => hc i j u (by simpa [ht] using hu)
    exact ⟨hx 0 _ rfl, hx 1 _ rfl⟩
theorem lnRows_length {ls : List LD} {svs : List Value} (h : svs.length = ls.length) : (lnRows ls svs).length = ls.length := by simp [lnRows, h]
theorem lns_at {w : World} {lo : Nat} {v : Value} {ls : List LD} (h : Lns w lo v ls) :
    (v = .slice none 0 0 ∧ ls = []) ∨ ∃ g off cap, v = .slice (some ⟨g, off, none⟩) ls.length cap ∧ lo ≤ g ∧ g < w.heap.size ∧ ls.length ≤ 1000000 ∧
      ∀ (i : Nat) (l : LD), ls[i]? = some l → ∃ x, w.cell? ⟨g, off + i * 3, none⟩ = some (.string l.player) ∧ w.cell? ⟨g, off + i * 3 + 1, none⟩ = some (.int .i64 l.week) ∧ w.cell? ⟨g, off + i * 3 + 2, none⟩ = some x ∧ Tds w lo x l.stats := by
  obtain ⟨svs, hl, hr, hs⟩ := h
  have hlen := lnRows_length hl
  rcases rows_at hr with ⟨e1, e2⟩ | ⟨g, off, cap, e1, e2, e3, hc⟩
  · rw [e2] at hlen
    exact .inl ⟨e1, List.eq_nil_of_length_eq_zero hlen.symm⟩
  · rw [hlen] at e1
    refine .inr ⟨g, off, cap, e1, e2, e3, by have := hr.small; omega, fun i l hli => ?_⟩
    have hi : i < ls.length := (List.getElem?_eq_some_iff.1 hli).1
    have hx : svs[i]? = some (svs[i]'(by omega)) := List.getElem?_eq_getElem (by omega)
    have hz : (lnRows ls svs)[i]? = some [.string l.player, .int .i64 l.week, svs[i]'(by omega)] := by unfold lnRows; rw [List.getElem?_zipWith, hli, hx]
    exact ⟨_, hc i 0 _ (by rw [hz]; rfl), hc i 1 _ (by rw [hz]; rfl), hc i 2 _ (by rw [hz]; rfl), hs i _ l hx hli⟩
theorem tds_shape {w : World} {lo : Nat} {v : Value} {ts : List TD} (h : Tds w lo v ts) : ∃ a c, v = .slice a ts.length c := by
  rcases tds_at h with ⟨rfl, rfl⟩ | ⟨g, off, cap, rfl, _⟩
  · exact ⟨none, 0, rfl⟩
  · exact ⟨_, _, rfl⟩
theorem rls_shape {w : World} {lo : Nat} {v : Value} {ts : List RD} (h : Rls w lo v ts) : ∃ a c, v = .slice a ts.length c := by
  rcases rls_at h with ⟨rfl, rfl⟩ | ⟨g, off, cap, rfl, _⟩
  · exact ⟨none, 0, rfl⟩
  · exact ⟨_, _, rfl⟩
theorem lns_shape {w : World} {lo : Nat} {v : Value} {ts : List LD} (h : Lns w lo v ts) : ∃ a c, v = .slice a ts.length c := by
  rcases lns_at h with ⟨rfl, rfl⟩ | ⟨g, off, cap, rfl, _⟩
  · exact ⟨none, 0, rfl⟩
  · exact ⟨_, _, rfl⟩
theorem Rls.below {w w' : World} {lo : Nat} {v : Value} {rs : List RD} (h : Rls w lo v rs) (hb : Below w.heap.size w w') : Rls w' lo v rs := Rows.below h hb
theorem Tds.below {w w' : World} {lo : Nat} {v : Value} {rs : List TD} (h : Tds w lo v rs) (hb : Below w.heap.size w w') : Tds w' lo v rs := Rows.below h hb
theorem Lns.below {w w' : World} {lo : Nat} {v : Value} {ls : List LD} (h : Lns w lo v ls) (hb : Below w.heap.size w w') : Lns w' lo v ls := by
  obtain ⟨svs, h1, h2, h3⟩ := h
  exact ⟨svs, h1, h2.below hb, fun i x l hx hl => (h3 i x l hx hl).below hb⟩
theorem Rls.other {w w' : World} {lo B : Nat} {v : Value} {rs : List RD} (h : Rls w lo v rs) (hg : w.grownBy w' (some B)) (hB : B < lo) : Rls w' lo v rs := Rows.other h hg hB
theorem Tds.other {w w' : World} {lo B : Nat} {v : Value} {rs : List TD} (h : Tds w lo v rs) (hg : w.grownBy w' (some B)) (hB : B < lo) : Tds w' lo v rs := Rows.other h hg hB
theorem Tds.mono {w : World} {lo lo' : Nat} {v : Value} {rs : List TD} (h : Tds w lo v rs) (hl : lo' ≤ lo) : Tds w lo' v rs := Rows.mono h hl
theorem Lns.other {w w' : World} {lo B : Nat} {v : Value} {ls : List LD} (h : Lns w lo v ls) (hg : w.grownBy w' (some B)) (hB : B < lo) : Lns w' lo v ls := by
  obtain ⟨svs, h1, h2, h3⟩ := h
  exact ⟨svs, h1, h2.other hg hB, fun i x l hx hl => (h3 i x l hx hl).other hg hB⟩

/-- What a call owns stays where a block below changes. -/
theorem own_keep {w w' : World} {base T sz n B : Nat} {v : Value} {xs : List Value} (h : w.ownsRow base T sz v n xs) (hg : w.grownBy w' (some B)) (hB : B < base) : w'.ownsRow base T sz v n xs :=
  h.kept hg (.inr fun e => by have := (own_block h B e).1; omega)
theorem cells_new (w : World) (xs : List Value) (t : Nat) : ∀ j u, xs[j]? = some u → (w.alloc (.cells xs.toArray t)).cell? ((⟨w.heap.size, 0, none⟩ : Addr).add j) = some u := by
  intro j u hu
  have hadd : (⟨w.heap.size, 0, none⟩ : Addr).add j = ⟨w.heap.size, j, none⟩ := by unfold Addr.add; split <;> simp_all
  rw [hadd, World.cell?_alloc_at _ _ _ _ rfl]
  simpa using hu
theorem flat_snoc {α : Type} (f : α → List Value) (l : List α) (x : α) : ((l ++ [x]).map f).flatten = (l.map f).flatten ++ f x := by simp
theorem small_of' {k : ByteArray} {ks : List ByteArray} (h : ks.all (fun k => decide (k.size ≤ 1000)) = true) (hk : k ∈ ks) : k.size ≤ 1000 := by
  rw [List.all_eq_true] at h
  simpa using h k hk
theorem st_each (ts : List TD) : ∀ r ∈ ts.map stRow, r.length = 2 := by
  intro r hr
  obtain ⟨t, _, rfl⟩ := List.mem_map.1 hr
  rfl
theorem rl_each (ts : List RD) : ∀ r ∈ ts.map rlRow, r.length = 7 := by
  intro r hr
  obtain ⟨t, _, rfl⟩ := List.mem_map.1 hr
  rfl
theorem tds_of_owns {w : World} {base : Nat} {v : Value} {ts : List TD} (h : w.ownsRow base 122 2 v ts.length (ts.map stRow).flatten) (hs : ts.length ≤ 1000000) : Tds w base v ts :=
  Rows.of_owns (by simpa using h) (by simpa using hs) (st_each ts)
theorem rls_of_owns {w : World} {base : Nat} {v : Value} {ts : List RD} (h : w.ownsRow base 119 7 v ts.length (ts.map rlRow).flatten) (hs : ts.length ≤ 1000000) : Rls w base v ts :=
  Rows.of_owns (by simpa using h) (by simpa using hs) (rl_each ts)
end Go.Proofs.YthlfjfmlmcoihaaGreat
