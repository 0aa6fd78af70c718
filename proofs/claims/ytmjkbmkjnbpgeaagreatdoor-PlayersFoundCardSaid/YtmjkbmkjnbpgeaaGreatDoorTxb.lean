/- The text of players: a line each. -/
import Derived.Test.YtmjkbmkjnbpgeaaGreatDoorTxa
import Derived.Test.YtmjkbmkjnbpgeaaGreatDoorBf
namespace Go.Proofs.YtmjkbmkjnbpgeaaGreatDoor
open Go.RowKit

theorem plays_shapeT {w : World} {lo : Nat} {v : Value} {ps : List PD} (h : Plays w lo v ps) : ∃ a c, v = .slice a ps.length c := by
  rcases plays_at h with ⟨rfl, rfl⟩ | ⟨g, off, cap, rfl, _⟩
  · exact ⟨none, 0, rfl⟩
  · exact ⟨_, _, rfl⟩
theorem join_le (sep : List UInt8) (M : Nat) : ∀ (xs : List (List UInt8)), (∀ x ∈ xs, x.length ≤ M) → (Lib.join xs sep).length ≤ xs.length * (M + sep.length)
  | [], _ => by simp [Lib.join, List.intercalate]
  | [x], h => by
    have := h x (by simp)
    simp [Lib.join, List.intercalate]
    omega
  | x :: y :: t, h => by
    have h1 := h x (by simp)
    have h2 := join_le sep M (y :: t) (fun z hz => h z (by simp [hz]))
    have e : Lib.join (x :: y :: t) sep = x ++ (sep ++ Lib.join (y :: t) sep) := by simp [Lib.join, List.intercalate, List.intersperse]
    rw [e, List.length_append, List.length_append]
    have e2 : (x :: y :: t).length * (M + sep.length) = (y :: t).length * (M + sep.length) + (M + sep.length) := by
      rw [List.length_cons, Nat.add_mul, Nat.one_mul]
    omega
/-- Strings with a comma between. -/
def joinS (ks : List ByteArray) : ByteArray := ⟨(Lib.join (ks.map (·.data.toList)) [44]).toArray⟩
theorem joinS_size (ks : List ByteArray) (hn : ks.length ≤ 1000) (h : ∀ k ∈ ks, k.size ≤ 1000) : (Lib.join (ks.map (·.data.toList)) [44]).length ≤ 1001000 := by
  have h1 := join_le [44] 1000 (ks.map (·.data.toList)) fun x hx => by
    obtain ⟨k, hk, rfl⟩ := List.mem_map.1 hx
    have := h k hk
    have e : k.data.toList.length = k.size := by rw [Array.length_toList]; rfl
    omega
  rw [List.length_map] at h1
  have := Nat.mul_le_mul_right 1001 hn
  have e : 1000 + ([44] : List UInt8).length = 1001 := rfl
  rw [e] at h1
  omega
theorem joinC_calls (lo : Nat) (v : Value) (ks : List ByteArray) (w : World) (h : Strs w lo v ks) (hn : ks.length ≤ 1000) (hk : ∀ k ∈ ks, k.size ≤ 1000) :
    Calls Tryz.prog 132 #[v, .string ⟨#[44]⟩] w fun e w' => e = .returned (.string (joinS ks)) ∧ Below w.heap.size w w' := by
  obtain ⟨a, c, rfl⟩ := strs_shape' h
  have hf := Rows.fits (show Rows w 9 lo 1 (.slice a ks.length c) (ks.map fun k => [.string k]) from h)
  rcases strs_at h with ⟨e, rfl⟩ | ⟨g, off, cap, e, _, hg, _, hc⟩
  · refine (Tryz.strings_Join_none a c ⟨#[44]⟩ w).mono ?_
    rintro e w' ⟨rfl, rfl⟩
    exact ⟨rfl, Below.refl _ _⟩
  · simp only [Value.slice.injEq, true_and] at e
    obtain ⟨rfl, rfl⟩ := e
    exact Tryz.strings_Join g off c ks ⟨#[44]⟩ w hc hg (by omega) hf (Nat.le_trans (joinS_size ks hn hk) (by omega))
/-- A player's line, without its end. -/
def lineS (p : PD) : ByteArray := p.key ++ ⟨#[32]⟩ ++ joinS p.pos ++ ⟨#[32]⟩ ++ p.name
def bytesT (ps : List PD) : List UInt8 := ps.flatMap fun p => (lineS p).data.toList ++ [10]
def textS (ps : List PD) : ByteArray := ⟨(bytesT ps).toArray⟩
theorem bytesT_snoc {ps : List PD} {k : Nat} {p : PD} (h : ps[k]? = some p) : bytesT (ps.take (k + 1)) = bytesT (ps.take k) ++ ((lineS p).data.toList ++ [10]) := by
  unfold bytesT
  rw [List.take_add_one, h, List.flatMap_append]
  simp
theorem textS_snoc {ps : List PD} {k : Nat} {p : PD} (h : ps[k]? = some p) : textS (ps.take (k + 1)) = textS (ps.take k) ++ (lineS p ++ ⟨#[10]⟩) := by
  unfold textS
  rw [bytesT_snoc h]
  apply ByteArray.ext
  rw [ByteArray.data_append, ByteArray.data_append]
  simp
theorem joinS_sz {p : PD} (h : SmallP p) : (joinS p.pos).size ≤ 1001000 := by
  have := joinS_size p.pos h.2.2.1 h.2.2.2
  have e : (joinS p.pos).size = (Lib.join (p.pos.map (·.data.toList)) [44]).length := by
    unfold joinS; show (List.toArray _).size = _; simp
  omega
set_option maxRecDepth 100000 in
set_option maxHeartbeats 2000000 in
theorem line_calls (lo : Nat) (p : PD) (x : Value) (w : World) (hx : Strs w lo x p.pos) (hs : SmallP p) :
    Calls Tryz.prog 131 #[.agg #[.string p.key, .string p.name, x]] w fun e w' => e = .returned (.string (lineS p)) ∧ Below w.heap.size w w' := by
  obtain ⟨xa, xc, rfl⟩ := strs_shape' hx
  obtain ⟨W, hW⟩ : ∃ W, W = w.alloc (.cells #[.string p.key, .string p.name, .slice xa p.pos.length xc] 86) := ⟨_, rfl⟩
  have hwW : Below w.heap.size w W := by rw [hW]; exact below_alloc w _
  have x0 : W.cell? ⟨w.heap.size, 0, none⟩ = some (.string p.key) := by rw [hW, World.cell?_alloc_at _ _ _ _ rfl]; rfl
  have x1 : W.cell? ⟨w.heap.size, 1, none⟩ = some (.string p.name) := by rw [hW, World.cell?_alloc_at _ _ _ _ rfl]; rfl
  have x2 : W.cell? ⟨w.heap.size, 2, none⟩ = some (.slice xa p.pos.length xc) := by rw [hW, World.cell?_alloc_at _ _ _ _ rfl]; rfl
  have hS := hx.below hwW
  have HS := Lib.hid (show ∀ w', Below W.heap.size W w' → (Below W.heap.size W w' ∧ Strs w' lo (.slice xa p.pos.length xc) p.pos ∧ w'.cell? ⟨w.heap.size, 0, none⟩ = some (.string p.key) ∧ w'.cell? ⟨w.heap.size, 1, none⟩ = some (.string p.name) ∧ w'.cell? ⟨w.heap.size, 2, none⟩ = some (.slice xa p.pos.length xc)) from fun w' hb => ⟨hb, hS.below hb, below_cell hb x0, below_cell hb x1, below_cell hb x2⟩)
  have hb0 := (Below.refl W.heap.size W).drew
  have z1 : ¬ 9223372036854775807 < p.key.size + 1 := by have := hs.1; omega
  have z2 : ¬ 9223372036854775807 < p.key.size + 1 + (joinS p.pos).size := by have := hs.1; have := joinS_sz hs; omega
  have z3 : ¬ 9223372036854775807 < p.key.size + 1 + (joinS p.pos).size + 1 := by have := hs.1; have := joinS_sz hs; omega
  have z4 : ¬ 9223372036854775807 < p.key.size + 1 + (joinS p.pos).size + 1 + p.name.size := by have := hs.1; have := hs.2.1; have := joinS_sz hs; omega
  have HSm := Lib.hid hs
  clear hx hs x0 x1 x2 hS
  go_enter Tryz.func131, Tryz.ntmps131
  go_upto_region 1 with fail
  rw [← hW]
  clear hW
  refine wp_region_held_drew (S := fun w' => Below W.heap.size W w' ∧ Strs w' lo (.slice xa p.pos.length xc) p.pos ∧ w'.cell? ⟨w.heap.size, 0, none⟩ = some (.string p.key) ∧ w'.cell? ⟨w.heap.size, 1, none⟩ = some (.string p.name) ∧ w'.cell? ⟨w.heap.size, 2, none⟩ = some (.slice xa p.pos.length xc)) (by kernel_rfl) ?_ (fun hHeld => ?_)
  · (exact HS.out _ (by first | assumption | exact hHeld.1 | exact below_step hHeld.1 (by assumption) | exact below_step hHeld.1 (below_alloc _ _)))
  refine take_at 0 3 (v := ?_) rfl rfl (by kernel_rfl) (by kernel_rfl) (by kernel_rfl) (fun _ _ _ h => h) (by rfl) ?y0 (by assumption) ?r0
  case y0 =>
    intro w hSw
    try dsimp only at hSw
    go_simp
    try with_reducible rfl
  simp only [List.set_cons_zero, List.set_cons_succ]
  refine take_at 1 4 (v := ?_) rfl rfl (by kernel_rfl) (by kernel_rfl) (by kernel_rfl) (fun _ _ _ h => h) (by rfl) ?y1 (by assumption) ?r1
  case y1 =>
    intro w hSw
    try dsimp only at hSw
    go_simp
    try with_reducible rfl
  simp only [List.set_cons_zero, List.set_cons_succ]
  refine take_at 2 5 (v := ?_) rfl rfl (by kernel_rfl) (by kernel_rfl) (by kernel_rfl) (fun _ _ _ h => h) (by rfl) ?y2 (by assumption) ?r2
  case y2 =>
    intro w hSw
    try dsimp only at hSw
    go_simp
    try with_reducible rfl
  simp only [List.set_cons_zero, List.set_cons_succ]
  refine take_at 3 6 (v := ?_) rfl rfl (by kernel_rfl) (by kernel_rfl) (by kernel_rfl) (fun _ _ _ h => h) (by rfl) ?y3 (by assumption) ?r3
  case y3 =>
    intro w hSw
    try dsimp only at hSw
    go_simp
    try with_reducible rfl
  simp only [List.set_cons_zero, List.set_cons_succ]
  refine take_at 4 7 (v := ?_) rfl rfl (by kernel_rfl) (by kernel_rfl) (by kernel_rfl) (fun _ _ _ h => h) (by rfl) ?y4 (by assumption) ?r4
  case y4 =>
    intro w hSw
    try dsimp only at hSw
    go_simp
    try with_reducible rfl
  simp only [List.set_cons_zero, List.set_cons_succ]
  refine take_at 8 11 (v := ?_) rfl rfl (by kernel_rfl) (by kernel_rfl) (by kernel_rfl) (fun _ _ _ h => h) (by rfl) ?y8 (by assumption) ?r8
  case y8 =>
    intro w hSw
    try dsimp only at hSw
    go_simp
    try with_reducible rfl
  simp only [List.set_cons_zero, List.set_cons_succ]
  refine take_at 9 12 (v := ?_) rfl rfl (by kernel_rfl) (by kernel_rfl) (by kernel_rfl) (fun _ _ _ h => h) (by rfl) ?y9 (by assumption) ?r9
  case y9 =>
    intro w hSw
    try dsimp only at hSw
    go_simp
    try with_reducible rfl
  simp only [List.set_cons_zero, List.set_cons_succ]
  refine run_at 5 rfl (by kernel_rfl) (by rfl) (fun K hK => ?_)
  go_simp
  refine (joinC_calls lo _ p.pos _ (by exact hHeld.2.1) HSm.out.2.2.1 HSm.out.2.2.2).mono ?_
  rintro e w' ⟨rfl, hb⟩
  go_wp2_with fail
  refine hK.out _ _ ?_ (fun hHeld => ?_)
  · (exact HS.out _ (by first | assumption | exact hHeld.1 | exact below_step hHeld.1 (by assumption) | exact below_step hHeld.1 (below_alloc _ _)))
  clear hK K
  try simp only [Act.put, List.setIfInBounds_toArray, List.set_cons_zero, List.set_cons_succ]
  refine take_at 6 9 (v := ?_) rfl rfl (by kernel_rfl) (by kernel_rfl) (by kernel_rfl) (fun _ _ _ h => h) (by rfl) ?y6 (by assumption) ?r6
  case y6 =>
    intro w hSw
    try dsimp only at hSw
    go_simp
    try with_reducible rfl
  simp only [List.set_cons_zero, List.set_cons_succ]
  refine take_at 7 10 (v := ?_) rfl rfl (by kernel_rfl) (by kernel_rfl) (by kernel_rfl) (fun _ _ _ h => h) (by rfl) ?y7 (by assumption) ?r7
  case y7 =>
    intro w hSw
    try dsimp only at hSw
    go_simp
    try with_reducible rfl
  simp only [List.set_cons_zero, List.set_cons_succ]
  refine take_at 10 13 (v := ?_) rfl rfl (by kernel_rfl) (by kernel_rfl) (by kernel_rfl) (fun _ _ _ h => h) (by rfl) ?y10 (by assumption) ?r10
  case y10 =>
    intro w hSw
    try dsimp only at hSw
    go_simp
    try with_reducible rfl
  simp only [List.set_cons_zero, List.set_cons_succ]
  refine take_at 11 2 (v := ?_) rfl rfl (by kernel_rfl) (by kernel_rfl) (by kernel_rfl) (fun _ _ _ h => h) (by rfl) ?y11 (by assumption) ?r11
  case y11 =>
    intro w hSw
    try dsimp only at hSw
    go_simp
    try with_reducible rfl
  simp only [List.set_cons_zero, List.set_cons_succ]
  refine wpAnyH_done (by kernel_rfl) ?_ _
  go_wp2_with fail
  go_ret
  exact ⟨rfl, below_step hwW hHeld.1⟩
theorem Bld.below {B b : Nat} {bs : List Value} {w w' : World} (h : Bld B b bs w) (hb : Below w.heap.size w w') : Bld B b bs w' := by
  have key : ∀ p, Lib.BuilderAt 183 5 B b p bs w → Lib.BuilderAt 183 5 B b p bs w' := by
    rintro p ⟨h1, v, h2, h3, h4⟩
    exact ⟨h1, v, (hb.block b (lt_of_heap h2)).trans h2, World.ownsRow.kept h3 (gb_below hb none) (by cases hv : v.ownBlock <;> simp), h4⟩
  rcases h with h | h
  · exact .inl (key _ h)
  · exact .inr (key _ h)
theorem byteCells_len (l : List UInt8) : (Lib.byteCells l).length = l.length := by unfold Lib.byteCells; rw [List.length_map]
theorem byteCells_line (l : List UInt8) (s : ByteArray) : Lib.byteCells l ++ Lib.strCells s ++ [.int .u8 10] = Lib.byteCells (l ++ (s.data.toList ++ [10])) := by
  unfold Lib.byteCells Lib.strCells
  simp
def writeR (ps : List PD) : ByteArray × Int := if 200000 < (bytesT ps).length then (⟨#[]⟩, 2) else (textS ps, 0)
theorem lineS_size {p : PD} (h : SmallP p) : (lineS p).size ≤ 1004000 := by
  have := joinS_size p.pos h.2.2.1 h.2.2.2
  have e : (joinS p.pos).size = (Lib.join (p.pos.map (·.data.toList)) [44]).length := by
    unfold joinS; show (List.toArray _).size = _; simp
  unfold lineS
  simp only [ByteArray.size_append]
  have := h.1; have := h.2.1
  have e1 : (⟨#[32]⟩ : ByteArray).size = 1 := rfl
  omega
theorem bytesT_len {ps : List PD} (h : ∀ p ∈ ps, SmallP p) : (bytesT ps).length ≤ ps.length * 1004001 := by
  induction ps with
  | nil => simp [bytesT]
  | cons p ps ih =>
    have h1 := lineS_size (h p (by simp))
    have h2 := ih fun q hq => h q (by simp [hq])
    have e : bytesT (p :: ps) = ((lineS p).data.toList ++ [10]) ++ bytesT ps := by simp [bytesT]
    have e1 : (lineS p).data.toList.length = (lineS p).size := by rw [Array.length_toList]; rfl
    have e2 : ([10] : List UInt8).length = 1 := rfl
    have e3 : (p :: ps).length * 1004001 = ps.length * 1004001 + 1004001 := by rw [List.length_cons, Nat.add_mul, Nat.one_mul]
    rw [e, List.length_append, List.length_append, e1, e2, e3]
    omega
set_option maxRecDepth 100000 in
set_option maxHeartbeats 2000000 in
theorem write_calls (lo : Nat) (v : Value) (ps : List PD) (w : World) (hp : Plays w lo v ps) (hs : ∀ p ∈ ps, SmallP p) (hn : ps.length ≤ 10000) :
    Calls Tryz.prog 130 #[v, .func (.func 131) #[] #[]] w fun e w' => e = .returned (.tuple #[.string (writeR ps).1, .int .i64 (writeR ps).2]) ∧ Below w.heap.size w w' := by
  have HSm := Lib.hid hs
  have hbl := bytesT_len hs
  have hbl2 := Nat.mul_le_mul_right 1004001 hn
  have HR := Lib.hid (show writeR ps = if 200000 < (bytesT ps).length then (⟨#[]⟩, 2) else (textS ps, 0) from rfl)
  have hfr := Lib.fresh_isBuilder 183 5 w
  have hle : ∀ k, (bytesT (ps.take k)).length ≤ (bytesT ps).length := fun k => by
    have e : bytesT ps = bytesT (ps.take k) ++ bytesT (ps.drop k) := by unfold bytesT; rw [← List.flatMap_append, List.take_append_drop]
    rw [e, List.length_append]; omega
  have Hle := Lib.hid hle
  have HP := Lib.hid hp
  obtain ⟨pa, pc, rfl⟩ := plays_shapeT hp
  have HF := Lib.hid hfr
  clear hp hs hfr hle
  go_enter Tryz.func130, Tryz.ntmps130
  go_wp2_with fail
  go_loopw [11] (fun i wr => ∃ k : Nat, k ≤ ps.length ∧ i = .int .i64 k ∧ Hid (Bld w.heap.size w.heap.size (Lib.byteCells (bytesT (ps.take k))) wr) ∧ Below w.heap.size w wr ∧ w.heap.size < wr.heap.size) (fun i _ => ps.length - (intOf i).toNat)
  case atStart => exact ⟨0, Nat.zero_le _, rfl, HF, below_alloc w _, by simp⟩
  case round =>
    obtain ⟨k, hk, rfl, HB, hb, hsz⟩ := hrel
    by_cases hlt : k < ps.length
    · obtain ⟨p, hpk⟩ : ∃ p, ps[k]? = some p := ⟨ps[k], List.getElem?_eq_getElem hlt⟩
      rcases plays_at (HP.out.below hb) with ⟨_, rfl⟩ | ⟨g, off, cap, e, hlo, hgl, _, hcell⟩
      · simp at hlt
      · simp only [Value.slice.injEq, true_and] at e
        obtain ⟨rfl, rfl⟩ := e
        obtain ⟨x, g0, g1, g2, hx⟩ := hcell k p hpk
        obtain ⟨qa, qc, rfl⟩ := strs_shape' hx
        have hsm := HSm.out p (List.mem_of_getElem? hpk)
        have hlen := lineS_size hsm
        have Hsn := Lib.hid (bytesT_snoc hpk)
        have h1 := Hle.out k
        obtain ⟨W1, hW1⟩ : ∃ W1, W1 = wr.alloc (.cells #[.string p.key, .string p.name, .slice qa p.pos.length qc] 86) := ⟨_, rfl⟩
        have hb1 : Below wr.heap.size wr W1 := by rw [hW1]; exact below_alloc wr _
        have C1 := Lib.hid (line_calls lo p _ W1 (hx.below hb1) hsm)
        have HB1 := Lib.hid (HB.out.below hb1)
        have y0 : W1.cell? ⟨wr.heap.size, 0, none⟩ = some (.string p.key) := by rw [hW1, World.cell?_alloc_at _ _ _ _ rfl]; rfl
        have y1 : W1.cell? ⟨wr.heap.size, 1, none⟩ = some (.string p.name) := by rw [hW1, World.cell?_alloc_at _ _ _ _ rfl]; rfl
        have y2 : W1.cell? ⟨wr.heap.size, 2, none⟩ = some (.slice qa p.pos.length qc) := by rw [hW1, World.cell?_alloc_at _ _ _ _ rfl]; rfl
        have hbw1 := hb.trans (hb1.mono (by omega))
        have hs1 := hb1.size
        have HW1 := Lib.hid hW1
        clear hpk hcell hx hsm hW1 hb1 hb HB
        go_upto_region 5 with fail
        rw [← HW1.out]
        clear HW1 g0 g1 g2
        go_wp2_with fail
        refine C1.out.mono ?_
        rintro e w2 ⟨rfl, hb2⟩
        have HB2 := Lib.hid (HB1.out.below hb2)
        have hbw2 := hbw1.trans (hb2.mono (by omega))
        have hs2 := hb2.size
        clear HB1 hbw1 hb2 y0 y1 y2 C1
        go_wp2_with fail
        refine (writeString_calls w.heap.size w.heap.size _ (lineS p) w2 HB2.out (by rw [byteCells_len]; omega) (by omega)).mono ?_
        rintro e w3 ⟨rfl, hB3, hb3⟩
        have hbw3 := hbw2.trans hb3
        have hs3 := hb3.size
        clear HB2 hbw2 hb3
        go_wp2_with fail
        refine (writeByte_calls w.heap.size w.heap.size _ 10 w3 hB3 (by rw [List.length_append, byteCells_len, Lib.strCells_length]; omega) (by omega)).mono ?_
        rintro e w4 ⟨rfl, hB4, hb4⟩
        have hbw4 := hbw3.trans hb4
        have hs4 := hb4.size
        rw [byteCells_line, ← Hsn.out] at hB4
        have HB4 := Lib.hid hB4
        clear hB3 hbw3 hb4 hB4
        go_wp2_with fail
        go_roundw
        case rel => exact ⟨k + 1, by omega, by go_num, HB4, hbw4, by omega⟩
        case measure => simp [intOf]; omega
    · obtain rfl : k = ps.length := by omega
      have hT := Lib.hid (List.take_length (l := ps))
      have hB := HB.out
      rw [hT.out] at hB
      have C1 := Lib.hid (Tryz.Builder_Len w.heap.size w.heap.size _ wr hB)
      have C2 := Lib.hid (fun wx (h : wx = wr) => Tryz.Builder_String_any w.heap.size w.heap.size (bytesT ps) wx (by rw [h]; exact hB) (by rw [h]; omega))
      clear hB HB
      go_wp2_with fail
      refine C1.out.mono ?_
      rintro e w2 ⟨rfl, rfl⟩
      rw [byteCells_len]
      by_cases hbig : 200000 < (bytesT ps).length
      · have hr := HR.out
        rw [if_pos hbig] at hr
        have Hr := Lib.hid hr
        have hd : decide ((200000 : Int) < ((bytesT ps).length : Int)) = true := decide_eq_true (by omega)
        clear hr C1 C2 hbig hbl hbl2
        go_wp2_with fail
        go_ret2
        rw [Hr.out]
        exact ⟨rfl, hb⟩
      · have hr := HR.out
        rw [if_neg hbig] at hr
        have Hr := Lib.hid hr
        have hd : decide ((200000 : Int) < ((bytesT ps).length : Int)) = false := decide_eq_false (by omega)
        clear hr C1 hbig hbl hbl2
        go_wp2_with fail
        refine (C2.out _ rfl).mono ?_
        rintro e w3 ⟨rfl, hb3⟩
        go_wp2_with fail
        go_ret2
        rw [Hr.out]
        exact ⟨rfl, hb.trans hb3⟩

def textE (ps : List PD) : Int := if chkPs ps = 0 then (writeR ps).2 else chkPs ps
def textR (ps : List PD) : ByteArray := if chkPs ps = 0 then (writeR ps).1 else ⟨#[]⟩
set_option maxRecDepth 100000 in
set_option maxHeartbeats 2000000 in
theorem text_calls (lo : Nat) (v : Value) (ps : List PD) (w : World) (hp : Plays w lo v ps) (hs : ∀ p ∈ ps, SmallP p) (hn : ps.length ≤ 10000) (hG : Glob w) :
    Calls Tryz.prog 59 #[v] w fun e w' => e = .returned (.tuple #[.string (textR ps), .int .i64 (textE ps)]) ∧ Below w.heap.size w w' := by
  obtain ⟨pa, pc, rfl⟩ := plays_shapeT hp
  have HP := Lib.hid hp
  have HSm := Lib.hid hs
  have HG := Lib.hid hG
  have HE := Lib.hid (show textE ps = if chkPs ps = 0 then (writeR ps).2 else chkPs ps from rfl)
  have HR := Lib.hid (show textR ps = if chkPs ps = 0 then (writeR ps).1 else ⟨#[]⟩ from rfl)
  have C1 := Lib.hid (checkPlayers_calls lo _ ps w hp hs (by omega) hG)
  generalize textE ps = E at HE ⊢
  generalize textR ps = R at HR ⊢
  generalize chkPs ps = X at HE HR C1
  clear hp hs hG
  go_enter Tryz.func59, Tryz.ntmps59
  go_wp2_with fail
  refine C1.out.mono ?_
  rintro e w1 ⟨rfl, hb1⟩
  have C2 := Lib.hid (write_calls lo _ ps w1 (HP.out.below hb1) HSm.out hn)
  by_cases hz : X = 0
  · have e1 : (X != 0) = false := by simp [hz]
    have Hz := Lib.hid hz
    clear hz C1
    go_wp2_with fail
    refine C2.out.mono ?_
    rintro e w2 ⟨rfl, hb2⟩
    go_wp2_with fail
    go_ret2
    rw [HE.out, HR.out, if_pos Hz.out, if_pos Hz.out]
    exact ⟨rfl, below_step hb1 hb2⟩
  · have e1 : (X != 0) = true := by simp [hz]
    have Hz := Lib.hid hz
    clear hz C1 C2
    go_wp2_with fail
    go_ret2
    rw [HE.out, HR.out, if_neg Hz.out, if_neg Hz.out]
    exact ⟨rfl, hb1⟩

set_option maxRecDepth 100000 in
set_option maxHeartbeats 4000000 in
theorem playerLines_calls (lo : Nat) (v : Value) (ps : List PD) (w : World) (hp : Plays w lo v ps) (hs : ∀ p ∈ ps, SmallP p) (hn : ps.length ≤ 10000) :
    Calls Tryz.prog 62 #[v] w fun e w' => e = .returned (.string (textS ps)) ∧ Below w.heap.size w w' := by
  obtain ⟨pa, pc, rfl⟩ := plays_shapeT hp
  have HP := Lib.hid hp
  have HSm := Lib.hid hs
  clear hp hs
  go_enter Tryz.func62, Tryz.ntmps62
  go_wp2_with fail
  go_loopw [3, 8] (fun s i wr => ∃ k : Nat, k ≤ ps.length ∧ i = .int .i64 k ∧ s = .string (textS (ps.take k)) ∧ Below w.heap.size w wr) (fun _ i _ => ps.length - (intOf i).toNat)
  case atStart => exact ⟨0, Nat.zero_le _, rfl, rfl, Below.refl _ _⟩
  case round =>
    obtain ⟨k, hk, rfl, rfl, hb⟩ := hrel
    by_cases hlt : k < ps.length
    · obtain ⟨p, hpk⟩ : ∃ p, ps[k]? = some p := ⟨ps[k], List.getElem?_eq_getElem hlt⟩
      rcases plays_at (HP.out.below hb) with ⟨_, rfl⟩ | ⟨g, off, cap, e, hlo, hgl, _, hcell⟩
      · simp at hlt
      · simp only [Value.slice.injEq, true_and] at e
        obtain ⟨rfl, rfl⟩ := e
        obtain ⟨x, g0, g1, g2, hx⟩ := hcell k p hpk
        obtain ⟨qa, qc, rfl⟩ := strs_shape' hx
        have Hsm := Lib.hid (HSm.out p (List.mem_of_getElem? hpk))
        have Hsn := Lib.hid (textS_snoc hpk)
        obtain ⟨X, hX⟩ : ∃ X, X = wr.heap.size := ⟨_, rfl⟩
        obtain ⟨W, hW⟩ : ∃ W, W = wr.alloc (.cells #[.string p.key, .string p.name, .slice qa p.pos.length qc] 86) := ⟨_, rfl⟩
        have hwW : Below wr.heap.size wr W := by rw [hW]; exact below_alloc wr _
        have x0 : W.cell? ⟨X, 0, none⟩ = some (.string p.key) := by rw [hW, hX, World.cell?_alloc_at _ _ _ _ rfl]; rfl
        have x1 : W.cell? ⟨X, 1, none⟩ = some (.string p.name) := by rw [hW, hX, World.cell?_alloc_at _ _ _ _ rfl]; rfl
        have x2 : W.cell? ⟨X, 2, none⟩ = some (.slice qa p.pos.length qc) := by rw [hW, hX, World.cell?_alloc_at _ _ _ _ rfl]; rfl
        have hS := hx.below hwW
        have hbW := hb.trans (hwW.mono hb.size)
        have HS := Lib.hid (show ∀ w', Below W.heap.size W w' → (Below W.heap.size W w' ∧ Strs w' lo (.slice qa p.pos.length qc) p.pos ∧ w'.cell? ⟨X, 0, none⟩ = some (.string p.key) ∧ w'.cell? ⟨X, 1, none⟩ = some (.string p.name) ∧ w'.cell? ⟨X, 2, none⟩ = some (.slice qa p.pos.length qc)) from fun w' hb => ⟨hb, hS.below hb, below_cell hb x0, below_cell hb x1, below_cell hb x2⟩)
        have hb0 := (Below.refl W.heap.size W).drew
        have HX := Lib.hid hX
        have z1 : ¬ 9223372036854775807 < p.key.size + 1 := by have := Hsm.out.1; omega
        have z2 : ¬ 9223372036854775807 < p.key.size + 1 + (joinS p.pos).size := by have := Hsm.out.1; have := joinS_sz Hsm.out; omega
        have z3 : ¬ 9223372036854775807 < p.key.size + 1 + (joinS p.pos).size + 1 := by have := Hsm.out.1; have := joinS_sz Hsm.out; omega
        have z4 : ¬ 9223372036854775807 < p.key.size + 1 + (joinS p.pos).size + 1 + p.name.size := by have := Hsm.out.1; have := Hsm.out.2.1; have := joinS_sz Hsm.out; omega
        have z5 : ¬ 9223372036854775807 < p.key.size + 1 + (joinS p.pos).size + 1 + p.name.size + 1 := by have := Hsm.out.1; have := Hsm.out.2.1; have := joinS_sz Hsm.out; omega
        have z6 : ¬ 9223372036854775807 < (textS (ps.take k)).size + (p.key.size + 1 + (joinS p.pos).size + 1 + p.name.size + 1) := by
          have := Hsm.out.1; have := Hsm.out.2.1; have := joinS_sz Hsm.out
          have e : (textS (ps.take k)).size = (bytesT (ps.take k)).length := by unfold textS; show (List.toArray _).size = _; simp
          have h1 := bytesT_len (ps := ps.take k) fun q hq => HSm.out q (List.mem_of_mem_take hq)
          have h2 := Nat.mul_le_mul_right 1004001 (Nat.le_trans (List.length_take_le' k ps) hn)
          omega
        generalize textS (ps.take k) = T at Hsn z6 ⊢
        clear hpk hcell hx hS hb hwW x0 x1 x2 hX
        go_upto_region 5 with fail
        rw [← hW, ← HX.out]
        clear hW g0 g1 g2 HX
        refine wp_region_held_drew (S := fun w' => Below W.heap.size W w' ∧ Strs w' lo (.slice qa p.pos.length qc) p.pos ∧ w'.cell? ⟨X, 0, none⟩ = some (.string p.key) ∧ w'.cell? ⟨X, 1, none⟩ = some (.string p.name) ∧ w'.cell? ⟨X, 2, none⟩ = some (.slice qa p.pos.length qc)) (by kernel_rfl) ?_ (fun hHeld => ?_)
        · (exact HS.out _ (by first | assumption | exact hHeld.1 | exact below_step hHeld.1 (by assumption) | exact below_step hHeld.1 (below_alloc _ _)))
        refine take_at 0 12 (v := ?_) rfl rfl (by kernel_rfl) (by kernel_rfl) (by kernel_rfl) (fun _ _ _ h => h) (by rfl) ?y0b (by assumption) ?r0b
        case y0b =>
          intro w hSw
          try dsimp only at hSw
          go_simp
          try with_reducible rfl
        simp only [List.set_cons_zero, List.set_cons_succ]
        refine take_at 1 13 (v := ?_) rfl rfl (by kernel_rfl) (by kernel_rfl) (by kernel_rfl) (fun _ _ _ h => h) (by rfl) ?y1b (by assumption) ?r1b
        case y1b =>
          intro w hSw
          try dsimp only at hSw
          go_simp
          try with_reducible rfl
        simp only [List.set_cons_zero, List.set_cons_succ]
        refine take_at 2 14 (v := ?_) rfl rfl (by kernel_rfl) (by kernel_rfl) (by kernel_rfl) (fun _ _ _ h => h) (by rfl) ?y2b (by assumption) ?r2b
        case y2b =>
          intro w hSw
          try dsimp only at hSw
          go_simp
          try with_reducible rfl
        simp only [List.set_cons_zero, List.set_cons_succ]
        refine take_at 3 15 (v := ?_) rfl rfl (by kernel_rfl) (by kernel_rfl) (by kernel_rfl) (fun _ _ _ h => h) (by rfl) ?y3b (by assumption) ?r3b
        case y3b =>
          intro w hSw
          try dsimp only at hSw
          go_simp
          try with_reducible rfl
        simp only [List.set_cons_zero, List.set_cons_succ]
        refine take_at 4 16 (v := ?_) rfl rfl (by kernel_rfl) (by kernel_rfl) (by kernel_rfl) (fun _ _ _ h => h) (by rfl) ?y4b (by assumption) ?r4b
        case y4b =>
          intro w hSw
          try dsimp only at hSw
          go_simp
          try with_reducible rfl
        simp only [List.set_cons_zero, List.set_cons_succ]
        refine take_at 5 17 (v := ?_) rfl rfl (by kernel_rfl) (by kernel_rfl) (by kernel_rfl) (fun _ _ _ h => h) (by rfl) ?y5b (by assumption) ?r5b
        case y5b =>
          intro w hSw
          try dsimp only at hSw
          go_simp
          try with_reducible rfl
        simp only [List.set_cons_zero, List.set_cons_succ]
        refine take_at 9 21 (v := ?_) rfl rfl (by kernel_rfl) (by kernel_rfl) (by kernel_rfl) (fun _ _ _ h => h) (by rfl) ?y9b (by assumption) ?r9b
        case y9b =>
          intro w hSw
          try dsimp only at hSw
          go_simp
          try with_reducible rfl
        simp only [List.set_cons_zero, List.set_cons_succ]
        refine take_at 10 22 (v := ?_) rfl rfl (by kernel_rfl) (by kernel_rfl) (by kernel_rfl) (fun _ _ _ h => h) (by rfl) ?y10b (by assumption) ?r10b
        case y10b =>
          intro w hSw
          try dsimp only at hSw
          go_simp
          try with_reducible rfl
        simp only [List.set_cons_zero, List.set_cons_succ]
        refine run_at 6 rfl (by kernel_rfl) (by rfl) (fun K hK => ?_)
        go_simp
        refine (joinC_calls lo _ p.pos _ (by exact hHeld.2.1) Hsm.out.2.2.1 Hsm.out.2.2.2).mono ?_
        rintro e w' ⟨rfl, hb⟩
        go_wp2_with fail
        refine hK.out _ _ ?_ (fun hHeld => ?_)
        · (exact HS.out _ (by first | assumption | exact hHeld.1 | exact below_step hHeld.1 (by assumption) | exact below_step hHeld.1 (below_alloc _ _)))
        clear hK K
        try simp only [Act.put, List.setIfInBounds_toArray, List.set_cons_zero, List.set_cons_succ]
        refine take_at 7 19 (v := ?_) rfl rfl (by kernel_rfl) (by kernel_rfl) (by kernel_rfl) (fun _ _ _ h => h) (by rfl) ?y7b (by assumption) ?r7b
        case y7b =>
          intro w hSw
          try dsimp only at hSw
          go_simp
          try with_reducible rfl
        simp only [List.set_cons_zero, List.set_cons_succ]
        refine take_at 8 20 (v := ?_) rfl rfl (by kernel_rfl) (by kernel_rfl) (by kernel_rfl) (fun _ _ _ h => h) (by rfl) ?y8b (by assumption) ?r8b
        case y8b =>
          intro w hSw
          try dsimp only at hSw
          go_simp
          try with_reducible rfl
        simp only [List.set_cons_zero, List.set_cons_succ]
        refine take_at 11 23 (v := ?_) rfl rfl (by kernel_rfl) (by kernel_rfl) (by kernel_rfl) (fun _ _ _ h => h) (by rfl) ?y11b (by assumption) ?r11b
        case y11b =>
          intro w hSw
          try dsimp only at hSw
          go_simp
          try with_reducible rfl
        simp only [List.set_cons_zero, List.set_cons_succ]
        refine take_at 12 24 (v := ?_) rfl rfl (by kernel_rfl) (by kernel_rfl) (by kernel_rfl) (fun _ _ _ h => h) (by rfl) ?y12b (by assumption) ?r12b
        case y12b =>
          intro w hSw
          try dsimp only at hSw
          go_simp
          try with_reducible rfl
        simp only [List.set_cons_zero, List.set_cons_succ]
        refine take_at 13 25 (v := ?_) rfl rfl (by kernel_rfl) (by kernel_rfl) (by kernel_rfl) (fun _ _ _ h => h) (by rfl) ?y13b (by assumption) ?r13b
        case y13b =>
          intro w hSw
          try dsimp only at hSw
          go_simp
          try with_reducible rfl
        simp only [List.set_cons_zero, List.set_cons_succ]
        refine take_at 14 3 (v := ?_) rfl rfl (by kernel_rfl) (by kernel_rfl) (by kernel_rfl) (fun _ _ _ h => h) (by rfl) ?y14b (by assumption) ?r14b
        case y14b =>
          intro w hSw
          try dsimp only at hSw
          go_simp
          try with_reducible rfl
        simp only [List.set_cons_zero, List.set_cons_succ]
        refine wpAnyH_done (by kernel_rfl) ?_ _
        obtain ⟨hb5, -, -, -, -⟩ := hHeld
        have hbw := hbW.trans (hb5.mono hbW.size)
        clear hb0 HS
        go_wp2_with fail
        go_roundw
        case rel => exact ⟨k + 1, by omega, by go_num, by rw [Hsn.out]; rfl, hbw⟩
        case measure => simp [intOf]; omega
    · obtain rfl : k = ps.length := by omega
      have hT := Lib.hid (List.take_length (l := ps))
      rw [hT.out]
      go_wp2_with fail
      go_ret
      exact ⟨rfl, hb⟩
end Go.Proofs.YtmjkbmkjnbpgeaaGreatDoor
