/- Rules, statistics and lines in memory. -/
import Derived.Test.YtmejjkicagkogaaGreatDoorGen
import Derived.Test.YtmejjkicagkogaaGreatDoorLibb
import Derived.Test.YtmejjkicagkogaaGreatDoorFrb
namespace Go.Proofs.YtmejjkicagkogaaGreatDoor
open Go.RowKit

/-- A rule. -/
structure RD where
  key : ByteArray
  stat : ByteArray
  pos : ByteArray
  kind : Int
  many : Int
  num : Int
  den : Int
/-- How often something was done. -/
structure TD where
  name : ByteArray
  count : Int
/-- A line. -/
structure LD where
  player : ByteArray
  week : Int
  stats : List TD

def rlRow (r : RD) : List Value := [.string r.key, .string r.stat, .string r.pos, .int .i64 r.kind, .int .i64 r.many, .int .i64 r.num, .int .i64 r.den]
def rlV (r : RD) : Value := .agg #[.string r.key, .string r.stat, .string r.pos, .int .i64 r.kind, .int .i64 r.many, .int .i64 r.num, .int .i64 r.den]
def stRow (t : TD) : List Value := [.string t.name, .int .i64 t.count]
def stV (t : TD) : Value := .agg #[.string t.name, .int .i64 t.count]
def lnV (l : LD) (x : Value) : Value := .agg #[.string l.player, .int .i64 l.week, x]
def Rls (w : World) (lo : Nat) (v : Value) (rs : List RD) : Prop := Rows w 40 lo 7 v (rs.map rlRow)
def Tds (w : World) (lo : Nat) (v : Value) (ts : List TD) : Prop := Rows w 75 lo 2 v (ts.map stRow)
def lnRows (ls : List LD) (svs : List Value) : List (List Value) := List.zipWith (fun (l : LD) (x : Value) => [.string l.player, .int .i64 l.week, x]) ls svs
def Lns (w : World) (lo : Nat) (v : Value) (ls : List LD) : Prop :=
  ∃ svs : List Value, svs.length = ls.length ∧ Rows w 78 lo 3 v (lnRows ls svs) ∧ ∀ (i : Nat) (x : Value) (l : LD), svs[i]? = some x → ls[i]? = some l → Tds w lo x l.stats
def SmallR (r : RD) : Prop := r.key.size ≤ 1000 ∧ r.stat.size ≤ 1000 ∧ r.pos.size ≤ 1000 ∧ Int64 r.kind ∧ Int64 r.many ∧ Int64 r.num ∧ Int64 r.den
def SmallT (t : TD) : Prop := t.name.size ≤ 1000 ∧ Int64 t.count
def SmallL (l : LD) : Prop := l.player.size ≤ 1000 ∧ Int64 l.week ∧ l.stats.length ≤ 1000 ∧ ∀ t ∈ l.stats, SmallT t

theorem rls_at {w : World} {lo : Nat} {v : Value} {rs : List RD} (h : Rls w lo v rs) :
    (v = .slice none 0 0 ∧ rs = []) ∨ ∃ g off cap, v = .slice (some ⟨g, off, none⟩) rs.length cap ∧ lo ≤ g ∧ g < w.heap.size ∧ rs.length ≤ 1000000 ∧
      ∀ (i : Nat) (r : RD), rs[i]? = some r → w.cell? ⟨g, off + i * 7, none⟩ = some (.string r.key) ∧ w.cell? ⟨g, off + i * 7 + 1, none⟩ = some (.string r.stat) ∧ w.cell? ⟨g, off + i * 7 + 2, none⟩ = some (.string r.pos) ∧
        w.cell? ⟨g, off + i * 7 + 3, none⟩ = some (.int .i64 r.kind) ∧ w.cell? ⟨g, off + i * 7 + 4, none⟩ = some (.int .i64 r.many) ∧ w.cell? ⟨g, off + i * 7 + 5, none⟩ = some (.int .i64 r.num) ∧ w.cell? ⟨g, off + i * 7 + 6, none⟩ = some (.int .i64 r.den) := by
  rcases rows_at h with ⟨e1, e2⟩ | ⟨g, off, cap, e1, e2, e3, hc⟩
  · exact .inl ⟨e1, by simpa using e2⟩
  · refine .inr ⟨g, off, cap, by simpa using e1, e2, e3, by simpa using h.small, fun i r hr => ?_⟩
    have hx : ∀ (j : Nat) (u : Value), (rlRow r)[j]? = some u → w.cell? ⟨g, off + i * 7 + j, none⟩ = some u := fun j u hu => hc i j u (by simpa [hr] using hu)
    exact ⟨hx 0 _ rfl, hx 1 _ rfl, hx 2 _ rfl, hx 3 _ rfl, hx 4 _ rfl, hx 5 _ rfl, hx 6 _ rfl⟩
theorem tds_at {w : World} {lo : Nat} {v : Value} {ts : List TD} (h : Tds w lo v ts) :
    (v = .slice none 0 0 ∧ ts = []) ∨ ∃ g off cap, v = .slice (some ⟨g, off, none⟩) ts.length cap ∧ lo ≤ g ∧ g < w.heap.size ∧ ts.length ≤ 1000000 ∧
      ∀ (i : Nat) (t : TD), ts[i]? = some t → w.cell? ⟨g, off + i * 2, none⟩ = some (.string t.name) ∧ w.cell? ⟨g, off + i * 2 + 1, none⟩ = some (.int .i64 t.count) := by
  rcases rows_at h with ⟨e1, e2⟩ | ⟨g, off, cap, e1, e2, e3, hc⟩
  · exact .inl ⟨e1, by simpa using e2⟩
  · refine .inr ⟨g, off, cap, by simpa using e1, e2, e3, by simpa using h.small, fun i t ht => ?_⟩
    have hx : ∀ (j : Nat) (u : Value), (stRow t)[j]? = some u → w.cell? ⟨g, off + i * 2 + j, none⟩ = some u := fun j u hu => hc i j u (by simpa [ht] using hu)
    exact ⟨hx 0 _ rfl, hx 1 _ rfl⟩
theorem lnRows_length {ls : List LD} {svs : List Value} (h : svs.length = ls.length) : (lnRows ls svs).length = ls.length := by simp [lnRows, h]
theorem lns_at {w : World} {lo : Nat} {v : Value} {ls : List LD} (h : Lns w lo v ls) :
    (v = .slice none 0 0 ∧ ls = []) ∨ ∃ g off cap, v = .slice (some ⟨g, off, none⟩) ls.length cap ∧ lo ≤ g ∧ g < w.heap.size ∧ ls.length ≤ 1000000 ∧
      ∀ (i : Nat) (l : LD), ls[i]? = some l → ∃ x, w.cell? ⟨g, off + i * 3, none⟩ = some (.string l.player) ∧ w.cell? ⟨g, off + i * 3 + 1, none⟩ = some (.int .i64 l.week) ∧ w.cell? ⟨g, off + i * 3 + 2, none⟩ = some x ∧ Tds w lo x l.stats := by
  obtain ⟨svs, hl, hr, hs⟩ := h
  have hlen := lnRows_length hl
  rcases rows_at hr with ⟨e1, e2⟩ | ⟨g, off, cap, e1, e2, e3, hc⟩
  · rw [e2] at hlen
    exact .inl ⟨e1, List.eq_nil_of_length_eq_zero hlen.symm⟩
  · rw [hlen] at e1
    refine .inr ⟨g, off, cap, e1, e2, e3, by have := hr.small; omega, fun i l hli => ?_⟩
    have hi : i < ls.length := (List.getElem?_eq_some_iff.1 hli).1
    have hx : svs[i]? = some (svs[i]'(by omega)) := List.getElem?_eq_getElem (by omega)
    have hz : (lnRows ls svs)[i]? = some [.string l.player, .int .i64 l.week, svs[i]'(by omega)] := by unfold lnRows; rw [List.getElem?_zipWith, hli, hx]
    exact ⟨_, hc i 0 _ (by rw [hz]; rfl), hc i 1 _ (by rw [hz]; rfl), hc i 2 _ (by rw [hz]; rfl), hs i _ l hx hli⟩
theorem tds_shape {w : World} {lo : Nat} {v : Value} {ts : List TD} (h : Tds w lo v ts) : ∃ a c, v = .slice a ts.length c := by
  rcases tds_at h with ⟨rfl, rfl⟩ | ⟨g, off, cap, rfl, _⟩
  · exact ⟨none, 0, rfl⟩
  · exact ⟨_, _, rfl⟩
theorem rls_shape {w : World} {lo : Nat} {v : Value} {ts : List RD} (h : Rls w lo v ts) : ∃ a c, v = .slice a ts.length c := by
  rcases rls_at h with ⟨rfl, rfl⟩ | ⟨g, off, cap, rfl, _⟩
  · exact ⟨none, 0, rfl⟩
  · exact ⟨_, _, rfl⟩
theorem lns_shape {w : World} {lo : Nat} {v : Value} {ts : List LD} (h : Lns w lo v ts) : ∃ a c, v = .slice a ts.length c := by
  rcases lns_at h with ⟨rfl, rfl⟩ | ⟨g, off, cap, rfl, _⟩
  · exact ⟨none, 0, rfl⟩
  · exact ⟨_, _, rfl⟩
theorem Rls.below {w w' : World} {lo : Nat} {v : Value} {rs : List RD} (h : Rls w lo v rs) (hb : Below w.heap.size w w') : Rls w' lo v rs := Rows.below h hb
theorem Tds.below {w w' : World} {lo : Nat} {v : Value} {rs : List TD} (h : Tds w lo v rs) (hb : Below w.heap.size w w') : Tds w' lo v rs := Rows.below h hb
theorem Lns.below {w w' : World} {lo : Nat} {v : Value} {ls : List LD} (h : Lns w lo v ls) (hb : Below w.heap.size w w') : Lns w' lo v ls := by
  obtain ⟨svs, h1, h2, h3⟩ := h
  exact ⟨svs, h1, h2.below hb, fun i x l hx hl => (h3 i x l hx hl).below hb⟩
theorem Rls.other {w w' : World} {lo B : Nat} {v : Value} {rs : List RD} (h : Rls w lo v rs) (hg : w.grownBy w' (some B)) (hB : B < lo) : Rls w' lo v rs := Rows.other h hg hB
theorem Tds.other {w w' : World} {lo B : Nat} {v : Value} {rs : List TD} (h : Tds w lo v rs) (hg : w.grownBy w' (some B)) (hB : B < lo) : Tds w' lo v rs := Rows.other h hg hB
theorem Tds.mono {w : World} {lo lo' : Nat} {v : Value} {rs : List TD} (h : Tds w lo v rs) (hl : lo' ≤ lo) : Tds w lo' v rs := Rows.mono h hl
theorem Lns.other {w w' : World} {lo B : Nat} {v : Value} {ls : List LD} (h : Lns w lo v ls) (hg : w.grownBy w' (some B)) (hB : B < lo) : Lns w' lo v ls := by
  obtain ⟨svs, h1, h2, h3⟩ := h
  exact ⟨svs, h1, h2.other hg hB, fun i x l hx hl => (h3 i x l hx hl).other hg hB⟩

/-- What a call owns stays where a block below changes. -/
theorem own_keep {w w' : World} {base T sz n B : Nat} {v : Value} {xs : List Value} (h : w.ownsRow base T sz v n xs) (hg : w.grownBy w' (some B)) (hB : B < base) : w'.ownsRow base T sz v n xs :=
  h.kept hg (.inr fun e => by have := (own_block h B e).1; omega)
theorem cells_new (w : World) (xs : List Value) (t : Nat) : ∀ j u, xs[j]? = some u → (w.alloc (.cells xs.toArray t)).cell? ((⟨w.heap.size, 0, none⟩ : Addr).add j) = some u := by
  intro j u hu
  have hadd : (⟨w.heap.size, 0, none⟩ : Addr).add j = ⟨w.heap.size, j, none⟩ := by unfold Addr.add; split <;> simp_all
  rw [hadd, World.cell?_alloc_at _ _ _ _ rfl]
  simpa using hu
theorem flat_snoc {α : Type} (f : α → List Value) (l : List α) (x : α) : ((l ++ [x]).map f).flatten = (l.map f).flatten ++ f x := by simp
theorem small_of' {k : ByteArray} {ks : List ByteArray} (h : ks.all (fun k => decide (k.size ≤ 1000)) = true) (hk : k ∈ ks) : k.size ≤ 1000 := by
  rw [List.all_eq_true] at h
  simpa using h k hk
theorem st_each (ts : List TD) : ∀ r ∈ ts.map stRow, r.length = 2 := by
  intro r hr
  obtain ⟨t, _, rfl⟩ := List.mem_map.1 hr
  rfl
theorem rl_each (ts : List RD) : ∀ r ∈ ts.map rlRow, r.length = 7 := by
  intro r hr
  obtain ⟨t, _, rfl⟩ := List.mem_map.1 hr
  rfl
theorem tds_of_owns {w : World} {base : Nat} {v : Value} {ts : List TD} (h : w.ownsRow base 75 2 v ts.length (ts.map stRow).flatten) (hs : ts.length ≤ 1000000) : Tds w base v ts :=
  Rows.of_owns (by simpa using h) (by simpa using hs) (st_each ts)
theorem rls_of_owns {w : World} {base : Nat} {v : Value} {ts : List RD} (h : w.ownsRow base 40 7 v ts.length (ts.map rlRow).flatten) (hs : ts.length ≤ 1000000) : Rls w base v ts :=
  Rows.of_owns (by simpa using h) (by simpa using hs) (rl_each ts)
end Go.Proofs.YtmejjkicagkogaaGreatDoor
