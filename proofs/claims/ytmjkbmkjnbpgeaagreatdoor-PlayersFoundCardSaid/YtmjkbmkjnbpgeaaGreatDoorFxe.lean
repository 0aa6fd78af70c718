/- Fixtures: how they are drawn. -/
import Derived.Test.YtmjkbmkjnbpgeaaGreatDoorFxd
import Derived.Deep.CutRange
namespace Go.Proofs.YtmjkbmkjnbpgeaaGreatDoor
open Go.RowKit

def OkF (f : FD) : Prop := f.home.size ≤ 40 ∧ f.away.size ≤ 40 ∧ -1099511627776 ≤ f.week ∧ f.week ≤ 1099511627776 ∧ -1099511627776 ≤ f.moment ∧ f.moment ≤ 1099511627776
def C_green : ByteArray := ⟨#[103, 114, 101, 101, 110]⟩
def C_grey : ByteArray := ⟨#[103, 114, 101, 121]⟩
def C_pink : ByteArray := ⟨#[112, 105, 110, 107]⟩
/-- The state of the inner round: the stream, the fixture's own block, the row so far. -/
structure XS (w : World) (B X base : Nat) (out : Value) (fs : List FD) (f : FD) (n : Nat) (w' : World) : Prop where
  st : St w' B n
  x : w'.heap[X]? = some (.cells #[.int .i64 f.week, .int .i64 f.moment, .string f.home, .string f.away] 72 (0, 0))
  own : OwnFx w' base out fs
  gb : w.grownBy w' (some B)
theorem XS.drew {w : World} {B X base : Nat} {out : Value} {fs : List FD} {f : FD} {n : Nat} {w' : World} (h : XS w B X base out fs f n w') : XS w B X base out fs f n w'.drew :=
  ⟨h.st, h.x, h.own, gb_drew' h.gb⟩
theorem XS.mono {w : World} {B X base : Nat} {out : Value} {fs : List FD} {f : FD} {n m : Nat} {w' : World} (h : XS w B X base out fs f n w') (hm : n ≤ m) : XS w B X base out fs f m w' :=
  ⟨h.st.mono hm, h.x, h.own, h.gb⟩
theorem XS.alloc {w : World} {B X base : Nat} {out : Value} {fs : List FD} {f : FD} {n : Nat} {w' : World} (h : XS w B X base out fs f n w') (o : Obj) : XS w B X base out fs f n (w'.alloc o) :=
  ⟨h.st.alloc o, (heap_alloc_old w' _ (lt_of_heap h.x)).trans h.x, World.ownsRow.alloc h.own o, gb_trans h.gb (gb_alloc w' o _)⟩
theorem XS.step {w : World} {B X base : Nat} {out : Value} {fs : List FD} {f : FD} {n m : Nat} {w' w'' : World} (h : XS w B X base out fs f n w') (hs : St w'' B m) (hg : w'.grownBy w'' (some B)) : XS w B X base out fs f m w'' := by
  obtain ⟨cur, hB⟩ := st_cells h.st
  refine ⟨hs, (hg.block X (lt_of_heap h.x) ?_).trans h.x, own_fx_row h.own hg hB (by decide), gb_trans h.gb hg⟩
  intro e
  cases e
  have := h.x
  rw [hB] at this
  cases this
theorem XS.cells {w : World} {B X base : Nat} {out : Value} {fs : List FD} {f : FD} {n : Nat} {w' : World} (h : XS w B X base out fs f n w') :
    w'.cell? ⟨X, 0, none⟩ = some (.int .i64 f.week) ∧ w'.cell? ⟨X, 1, none⟩ = some (.int .i64 f.moment) ∧ w'.cell? ⟨X, 2, none⟩ = some (.string f.home) ∧ w'.cell? ⟨X, 3, none⟩ = some (.string f.away) ∧ ∀ o, w'.frozen? ⟨X, o, none⟩ = false := by
  refine ⟨?_, ?_, ?_, ?_, fun o => by simp [World.frozen?, h.x]⟩ <;> (rw [cell_of_row w' _ _ _ _ _ h.x]; rfl)
/-- Behind stores into the fixture's own block. -/
theorem XS.put {w : World} {B X base : Nat} {out : Value} {fs : List FD} {f g : FD} {n : Nat} {w' w'' : World} (h : XS w B X base out fs f n w') (hBw : B < w.heap.size) (hX : w.heap.size ≤ X) (hg : w'.grownBy w'' (some X)) (hn : w''.heap[X]? = some (.cells #[.int .i64 g.week, .int .i64 g.moment, .string g.home, .string g.away] 72 (0, 0))) (ho : out.ownBlock ≠ some X) : XS w B X base out fs g n w'' := by
  have hne : X ≠ B := by omega
  refine ⟨?_, hn, World.ownsRow.kept h.own hg (.inr ho), gb_then h.gb hg fun r hr => by cases hr; exact hX⟩
  obtain ⟨lv, k, h1, h2, h3⟩ := h.st
  refine ⟨lv, k, (hg.block B (lt_of_heap h1) (by intro e; cases e; exact hne rfl)).trans h1, h2, ?_⟩
  rcases h3 with h3 | ⟨b, off, len, cap, e, hb, hl, hx⟩
  · exact .inl h3
  · refine .inr ⟨b, off, len, cap, e, hb, hl, fun j hj => ?_⟩
    obtain ⟨x, hx'⟩ := hx j hj
    have hbX : b ≠ X := by omega
    exact ⟨x, (World.cell?_of_block (hg.block b (by have := lt_of_heap h1; omega) (by intro e; cases e; exact hbX rfl))).trans hx'⟩

theorem strs_two {w : World} {B X base : Nat} {out : Value} {fs : List FD} {f : FD} {n : Nat} {w' : World} (h : XS w B X base out fs f n w') (k : ByteArray) :
    Strs (w'.alloc (.cells #[.string ⟨#[]⟩, .string k] 9)) w'.heap.size (.slice (some ⟨w'.heap.size, 0, none⟩) 2 2) [K_none, k] ∧ B < w'.heap.size :=
  ⟨strs_new w' [K_none, k] (by simp), h.st.lt⟩
theorem cell_four_new (w : World) (a b c d : Value) (t : TypeId) : ∀ j u, [a, b, c, d][j]? = some u → (w.alloc (.cells #[a, b, c, d] t)).cell? ((⟨w.heap.size, 0, none⟩ : Addr).add j) = some u := by
  intro j u hu
  have hadd : (⟨w.heap.size, 0, none⟩ : Addr).add j = ⟨w.heap.size, j, none⟩ := by unfold Addr.add; split <;> simp_all
  rw [hadd, World.cell?_alloc_at _ _ _ _ rfl]
  match j, hu with
  | 0, hu => simpa using hu
  | 1, hu => simpa using hu
  | 2, hu => simpa using hu
  | 3, hu => simpa using hu
def SomeFxs (lo : Nat) (w : World) (v : Value) : Prop := ∃ fs, Fxs w lo v fs ∧ fs.length ≤ 12 ∧ ∀ f ∈ fs, OkF f
set_option maxRecDepth 100000 in
set_option maxHeartbeats 8000000 in
theorem fixtures_calls (B N : Nat) (w : World) (hs : St w B N) (hN : N ≤ 3990000) :
    Calls Tryz.prog 27 #[.pointer (some ⟨B, 0, none⟩)] w (Made B (N + 200) (SomeFxs w.heap.size) w) := by
  obtain ⟨i0, hi, hz0, hz1, hz2⟩ := info_parts info_fx
  have hBw := hs.lt
  go_enter Tryz.func27, Tryz.ntmps27
  go_wp2_with fail
  go_loopw [3, 4] (fun out wk wr => ∃ (k : Nat) (fs : List FD), wk = .int .i64 k ∧ 1 ≤ k ∧ k ≤ 5 ∧ fs.length + 3 ≤ 3 * k ∧ Hid (∀ f ∈ fs, OkF f) ∧ OwnFx wr w.heap.size out fs ∧ St wr B (N + 40 * k) ∧ w.grownBy wr (some B)) (fun _ i _ => 5 - (intOf i).toNat)
  case atStart =>
    exact ⟨1, [], rfl, by omega, by omega, by simp, Lib.hid (by simp), World.ownsRow_nil _ _ _ _, hs.mono (by omega), gb_refl _ _⟩
  case round =>
    obtain ⟨k, fs, rfl, hk1, hk5, hpl, Hfs, hown, hsr, hg⟩ := hrel
    by_cases hlt : k ≤ 4
    · have hkk : IntKind.i64.wrap (100 * (k : Int)) = 100 * (k : Int) := IntWalk.i64_in _ (by omega)
      obtain ⟨curB, hB⟩ := st_cells hsr
      go_wp2_with fail
      refine (range_calls B (N + 40 * k) 0 3 wr hsr (by omega) (by omega) (by omega) (by omega)).mono ?_
      rintro e w1 ⟨v, ⟨m, rfl, hm0, hm1⟩, rfl, hs1, hg1⟩
      have hown1 := own_fx_row hown hg1 hB (by decide)
      have hg01 := gb_trans hg hg1
      clear hB hown hsr hg hg1 curB
      obtain ⟨wo, rfl⟩ : ∃ wo : World, wo = wr := ⟨_, rfl⟩
      go_wp2_with fail
      go_loopw [3, 5, 15] (fun out av q wr => ∃ (t : Nat) (fs' : List FD) (a : Int), q = .int .i64 t ∧ (t : Int) ≤ m ∧ av = .int .i64 a ∧ 0 ≤ a ∧ a ≤ 1000 + 20 * (t : Int) ∧ fs'.length ≤ fs.length + t ∧ Hid (∀ f ∈ fs', OkF f) ∧ OwnFx wr w.heap.size out fs' ∧ St wr B (N + 40 * k + 1 + 10 * t) ∧ w.grownBy wr (some B)) (fun _ _ q _ => 3 - (intOf q).toNat)
      case atStart => exact ⟨0, fs, 100 * (k : Int), rfl, by omega, by first | rfl | simp [hkk], by omega, by omega, by omega, Hfs, hown1, hs1.mono (by omega), hg01⟩
      case round =>
        obtain ⟨t, fs', a, rfl, htm, rfl, ha0, ha1, hpl', Hfs', hown', hs', hg'⟩ := hrel
        clear hown1 hs1 hg01
        by_cases hlt2 : (t : Int) < m
        · obtain ⟨N1, hN1⟩ : ∃ N1, N1 = N + 40 * k + 1 + 10 * t := ⟨_, rfl⟩
          have HN1 := Lib.hid hN1
          have hN1' : N1 ≤ 3995000 := by omega
          rw [← hN1] at hs'
          clear hN1
          obtain ⟨curB, hB⟩ := st_cells hs'
          go_wp2_with fail
          refine (pick_calls B N1 wr.heap.size _ [0, 5, 20] _ (hs'.alloc _) (by omega) (ints_new wr [0, 5, 20] (by decide)) hs'.lt (by simp)).mono ?_
          rintro e w1 ⟨v, ⟨r, rfl, hr⟩, rfl, hs1, hg1⟩
          have hr' : 0 ≤ r ∧ r ≤ 20 := by
            simp only [List.mem_cons, List.not_mem_nil, or_false] at hr
            omega
          have hgo1 := gb_trans (gb_alloc wr (.cells ([0, 5, 20].map (Value.int .i64)).toArray 3) (some B)) hg1
          have hown1 := own_fx_row hown' hgo1 hB (by decide)
          have hg01 := gb_trans hg' hgo1
          have hka : IntKind.i64.wrap (a + r) = a + r := IntWalk.i64_in _ (by omega)
          obtain ⟨curB1, hB1⟩ := st_cells hs1
          clear hr hB hown' hgo1 hg1 hs' hg' curB
          go_wp2_with fail
          refine (some_calls B (N1 + 1) w1.heap.size _ [C_red, C_blue, C_green] _ (hs1.alloc _) (by omega) (strs_new w1 [C_red, C_blue, C_green] (by decide)) hs1.lt (by simp)).mono ?_
          rintro e w2 ⟨v, ⟨hm, rfl, hhm⟩, rfl, hs2, hg2⟩
          have hh40 := small_of (by decide) hhm
          have hgo2 := gb_trans (gb_alloc w1 (.cells ([C_red, C_blue, C_green].map Value.string).toArray 9) (some B)) hg2
          have hown2 := own_fx_row hown1 hgo2 hB1 (by decide)
          have hg02 := gb_trans hg01 hgo2
          obtain ⟨curB2, hB2⟩ := st_cells hs2
          clear hhm hB1 hown1 hgo2 hg2 hs1 hg01 curB1
          go_wp2_with fail
          refine (some_calls B (N1 + 2) w2.heap.size _ [C_grey, C_pink, C_blue] _ (hs2.alloc _) (by omega) (strs_new w2 [C_grey, C_pink, C_blue] (by decide)) hs2.lt (by simp)).mono ?_
          rintro e w3 ⟨v, ⟨aw, rfl, haw⟩, rfl, hs3, hg3⟩
          have ha40 := small_of (by decide) haw
          have hgo3 := gb_trans (gb_alloc w2 (.cells ([C_grey, C_pink, C_blue].map Value.string).toArray 9) (some B)) hg3
          have hown3 := own_fx_row hown2 hgo3 hB2 (by decide)
          have hg03 := gb_trans hg02 hgo3
          clear haw hB2 hown2 hgo3 hg3 hs2 hg02 curB2
          obtain ⟨X, hX⟩ : ∃ X, X = w3.heap.size := ⟨_, rfl⟩
          have hXw : w.heap.size ≤ X := by rw [hX]; exact hg03.size
          have hXs : XS w B X w.heap.size u3 fs' ⟨k, a + r, hm, aw⟩ (N1 + 3) (w3.alloc (.cells #[.int .i64 (k : Int), .int .i64 (a + r), .string hm, .string aw] 72)) := by
            rw [hX]
            exact ⟨hs3.alloc _, heap_alloc_new w3 _, World.ownsRow.alloc hown3 _, gb_trans hg03 (gb_alloc w3 _ _)⟩
          have hoX : u3.ownBlock ≠ some X := by
            intro e
            obtain ⟨_, cur', h⟩ := own_block hown3 X e
            have := lt_of_heap h
            omega
          have hkB : -1099511627776 ≤ (k : Int) ∧ (k : Int) ≤ 1099511627776 := by omega
          have harB : -1099511627776 ≤ a + r ∧ a + r ≤ 1099511627776 := by omega
          clear hs3 hown3 hg03
          go_upto_region 10 with fail
          obtain ⟨wA, hwA⟩ : ∃ wA, wA = w3.alloc (.cells #[.int .i64 (k : Int), .int .i64 (a + r), .string hm, .string aw] 72) := ⟨_, rfl⟩
          rw [← hwA] at hXs ⊢
          rw [← hX]
          clear hX hwA
          go_cut [40] from 17 to 60 (fun v wc => ∃ b : Bool, v = .bool b ∧ XS w B X w.heap.size u3 fs' ⟨k, a + r, hm, aw⟩ (N1 + 4) wc)
          case first =>
            obtain ⟨c0, c1, c2, c3, cf⟩ := hXs.cells
            by_cases heq : (hm.toList == aw.toList) = true
            · go_wp2_with fail
              refine (flip_calls B (N1 + 3) 12 _ hXs.st (by omega) (by omega) (by omega)).mono ?_
              rintro e w4 ⟨v, ⟨b, rfl⟩, rfl, hs4, hg4⟩
              have hX4 := hXs.step hs4 hg4
              clear c0 c1 c2 c3 cf
              go_wp2_with fail
              go_meet
              case rel => exact ⟨_, rfl, hX4⟩
            · have heq' : (hm.toList == aw.toList) = false := by simpa using heq
              clear heq
              go_wp2_with fail
              go_meet
              case rel => exact ⟨_, rfl, hXs.mono (by omega)⟩
          case rest =>
            obtain ⟨b, rfl, hXc⟩ := hcut
            clear hXs
            go_upto_if 40 with fail
            go_cut [40] from 17 to 60 (fun _ wc => ∃ aw' : ByteArray, aw'.size ≤ 40 ∧ XS w B X w.heap.size u3 fs' ⟨k, a + r, hm, aw'⟩ (N1 + 4) wc)
            case first =>
              obtain ⟨c0, c1, c2, c3, cf⟩ := hXc.cells
              cases b
              · go_wp2_with fail
                go_meet
                case rel => exact ⟨aw, ha40, hXc⟩
              · go_wp2_with fail
                go_meet
                case rel => exact ⟨C_pink, by decide, hXc.put hBw hXw (gb_setCell _ _ _ _) (by simp [World.setCell, Array.getElem?_modify, hXc.x, C_pink]) hoX⟩
            case rest =>
              obtain ⟨aw', ha40', hXd⟩ := hcut
              clear hXc
              go_wp2_with fail
              refine (flip_calls B (N1 + 4) 80 _ hXd.st (by omega) (by omega) (by omega)).mono ?_
              rintro e w4 ⟨v, ⟨b2, rfl⟩, rfl, hs4, hg4⟩
              have hX4 := hXd.step hs4 hg4
              clear hXd hs4 hg4
              go_upto_if 43 with fail
              go_cut [43] from 17 to 60 (fun _ wc => ∃ f : FD, OkF f ∧ XS w B X w.heap.size u3 fs' f (N1 + 10) wc)
              case first =>
                cases b2
                · go_wp2_with fail
                  go_meet
                  case rel => exact ⟨_, ⟨hh40, ha40', hkB.1, hkB.2, harB.1, harB.2⟩, hX4.mono (by omega)⟩
                · go_upto_region 13 with fail
                  have hX5 := hX4.drew
                  have hH : ∀ w' : World, True := fun _ => trivial
                  have hHeld : True := trivial
                  refine wp_region_held_drew (S := fun _ => True) (by kernel_rfl) ?_ (fun hHeld => ?_)
                  · (trivial)
                  refine take_at 0 44 (v := ?_) rfl rfl (by kernel_rfl) (by kernel_rfl) (by kernel_rfl) (fun _ _ _ h => h) (by rfl) ?y0 (by assumption) ?r0
                  case y0 =>
                    intro w hSw
                    try dsimp only at hSw
                    go_simp
                    try with_reducible rfl
                  simp only [List.set_cons_zero, List.set_cons_succ]
                  refine take_at 2 46 (v := ?_) rfl rfl (by kernel_rfl) (by kernel_rfl) (by kernel_rfl) (fun _ _ _ h => h) (by rfl) ?y2 (by assumption) ?r2
                  case y2 =>
                    intro w hSw
                    try dsimp only at hSw
                    go_simp
                    try with_reducible rfl
                  simp only [List.set_cons_zero, List.set_cons_succ]
                  refine take_at 4 48 (v := ?_) rfl rfl (by kernel_rfl) (by kernel_rfl) (by kernel_rfl) (fun _ _ _ h => h) (by rfl) ?y4 (by assumption) ?r4
                  case y4 =>
                    intro w hSw
                    try dsimp only at hSw
                    go_simp
                    try with_reducible rfl
                  simp only [List.set_cons_zero, List.set_cons_succ]
                  refine take_at 5 49 (v := ?_) rfl rfl (by kernel_rfl) (by kernel_rfl) (by kernel_rfl) (fun _ _ _ h => h) (by rfl) ?y5 (by assumption) ?r5
                  case y5 =>
                    intro w hSw
                    try dsimp only at hSw
                    go_simp
                    try with_reducible rfl
                  simp only [List.set_cons_zero, List.set_cons_succ]
                  refine run_at2 1 6 rfl rfl (by kernel_rfl) (by rfl) (by rfl) (fun K hK => ?_) (fun K hK => ?_)
                  · go_simp
                    refine (odd_calls B _ 1 60 _ hX5.st (by omega) (by omega) (by omega) (by omega)).mono ?_
                    rintro e w' ⟨v, ⟨na, rfl, hla, hua⟩, rfl, hs', hg'⟩
                    try replace hS := hS.other hg' hSB
                    replace hX5 := hX5.step hs' hg'
                    clear hs' hg'
                    go_wp2_with fail
                    refine hK.out _ _ ?_ (fun hHeld => ?_)
                    · (trivial)
                    clear hK K
                    try simp only [Act.put, List.setIfInBounds_toArray, List.set_cons_zero, List.set_cons_succ]
                    refine run_at2 3 6 rfl rfl (by kernel_rfl) (by rfl) (by rfl) (fun K hK => ?_) (fun K hK => ?_)
                    · go_simp
                      refine (odd_calls B _ 0 500 _ hX5.st (by omega) (by omega) (by omega) (by omega)).mono ?_
                      rintro e w' ⟨v, ⟨nb, rfl, hlb, hub⟩, rfl, hs', hg'⟩
                      try replace hS := hS.other hg' hSB
                      replace hX5 := hX5.step hs' hg'
                      clear hs' hg'
                      go_wp2_with fail
                      refine hK.out _ _ ?_ (fun hHeld => ?_)
                      · (trivial)
                      clear hK K
                      try simp only [Act.put, List.setIfInBounds_toArray, List.set_cons_zero, List.set_cons_succ]
                      refine run_at 6 rfl (by kernel_rfl) (by rfl) (fun K hK => ?_)
                      obtain ⟨q0, q1, q2, q3, qf⟩ := hX5.cells
                      dsimp only at q0 q1 q2 q3
                      go_simp
                      clear q0 q1 q2 q3 qf
                      go_wp2_with fail
                      refine hK.out _ _ ?_ (fun hHeld => ?_)
                      · (trivial)
                      clear hK K
                      try simp only [Act.put, List.setIfInBounds_toArray, List.set_cons_zero, List.set_cons_succ]
                      refine take_at 9 53 (v := ?_) rfl rfl (by kernel_rfl) (by kernel_rfl) (by kernel_rfl) (fun _ _ _ h => h) (by rfl) ?y9aa (by assumption) ?r9aa
                      case y9aa =>
                        intro w hSw
                        try dsimp only at hSw
                        go_simp
                        try with_reducible rfl
                      simp only [List.set_cons_zero, List.set_cons_succ]
                      refine run_at 7 rfl (by kernel_rfl) (by rfl) (fun K hK => ?_)
                      go_simp
                      obtain ⟨hS, hSB⟩ := strs_two hX5 hm
                      replace hX5 := hX5.alloc (.cells #[.string ⟨#[]⟩, .string hm] 9)
                      go_wp2_with fail
                      refine hK.out _ _ ?_ (fun hHeld => ?_)
                      · (trivial)
                      clear hK K
                      try simp only [Act.put, List.setIfInBounds_toArray, List.set_cons_zero, List.set_cons_succ]
                      refine run_at 8 rfl (by kernel_rfl) (by rfl) (fun K hK => ?_)
                      go_simp
                      refine (some_calls B _ _ _ [K_none, hm] _ hX5.st (by omega) hS hSB (by simp)).mono ?_
                      rintro e w' ⟨v, ⟨cX, rfl, hcX⟩, rfl, hs', hg'⟩
                      have hcX40 : cX.size ≤ 40 := by
                        simp only [List.mem_cons, List.not_mem_nil, or_false] at hcX
                        rcases hcX with rfl | rfl
                        · decide
                        · exact hh40
                      replace hX5 := hX5.step hs' hg'
                      clear hs' hg' hcX
                      go_wp2_with fail
                      refine hK.out _ _ ?_ (fun hHeld => ?_)
                      · (trivial)
                      clear hK K
                      try simp only [Act.put, List.setIfInBounds_toArray, List.set_cons_zero, List.set_cons_succ]
                      refine run_at 10 rfl (by kernel_rfl) (by rfl) (fun K hK => ?_)
                      obtain ⟨q0, q1, q2, q3, qf⟩ := hX5.cells
                      dsimp only at q0 q1 q2 q3
                      go_simp
                      refine hK.out _ _ ?_ (fun hHeld => ?_)
                      · (trivial)
                      clear hK K
                      try simp only [Act.put, List.setIfInBounds_toArray, List.set_cons_zero, List.set_cons_succ]
                      refine take_at 11 54 (v := ?_) rfl rfl (by kernel_rfl) (by kernel_rfl) (by kernel_rfl) (fun _ _ _ h => h) (by rfl) ?y11aa (by assumption) ?r11aa
                      case y11aa =>
                        intro w hSw
                        try dsimp only at hSw
                        go_simp
                        try with_reducible rfl
                      simp only [List.set_cons_zero, List.set_cons_succ]
                      refine run_at 12 rfl (by kernel_rfl) (by rfl) (fun K hK => ?_)
                      go_simp
                      refine hK.out _ _ ?_ (fun hHeld => ?_)
                      · (trivial)
                      clear hK K
                      try simp only [Act.put, List.setIfInBounds_toArray, List.set_cons_zero, List.set_cons_succ]
                      refine take_at 13 55 (v := ?_) rfl rfl (by kernel_rfl) (by kernel_rfl) (by kernel_rfl) (fun _ _ _ h => h) (by rfl) ?y13aa (by assumption) ?r13aa
                      case y13aa =>
                        intro w hSw
                        try dsimp only at hSw
                        go_simp
                        try with_reducible rfl
                      simp only [List.set_cons_zero, List.set_cons_succ]
                      refine run_at 14 rfl (by kernel_rfl) (by rfl) (fun K hK => ?_)
                      go_simp
                      refine hK.out _ _ ?_ (fun hHeld => ?_)
                      · (trivial)
                      clear hK K
                      try simp only [Act.put, List.setIfInBounds_toArray, List.set_cons_zero, List.set_cons_succ]
                      refine wpAnyH_done (by kernel_rfl) ?_ _
                      go_wp2_with fail
                      go_meet
                      case rel => exact ⟨⟨na, nb, cX, aw'⟩, ⟨hcX40, ha40', hla, hua, hlb, hub⟩, (hX5.put hBw hXw (gb_trans (gb_setCell _ _ _ _) (gb_trans (gb_setCell _ _ _ _) (gb_setCell _ _ _ _))) (by simp [World.setCell, Array.getElem?_modify, hX5.x]) hoX).mono (by omega)⟩
                    · obtain ⟨q0, q1, q2, q3, qf⟩ := hX5.cells
                      dsimp only at q0 q1 q2 q3
                      go_simp
                      clear q0 q1 q2 q3 qf
                      go_wp2_with fail
                      refine hK.out _ _ ?_ (fun hHeld => ?_)
                      · (trivial)
                      clear hK K
                      try simp only [Act.put, List.setIfInBounds_toArray, List.set_cons_zero, List.set_cons_succ]
                      refine take_at 9 53 (v := ?_) rfl rfl (by kernel_rfl) (by kernel_rfl) (by kernel_rfl) (fun _ _ _ h => h) (by rfl) ?y9ab (by assumption) ?r9ab
                      case y9ab =>
                        intro w hSw
                        try dsimp only at hSw
                        go_simp
                        try with_reducible rfl
                      simp only [List.set_cons_zero, List.set_cons_succ]
                      refine run_at2 3 7 rfl rfl (by kernel_rfl) (by rfl) (by rfl) (fun K hK => ?_) (fun K hK => ?_)
                      · go_simp
                        refine (odd_calls B _ 0 500 _ hX5.st (by omega) (by omega) (by omega) (by omega)).mono ?_
                        rintro e w' ⟨v, ⟨nb, rfl, hlb, hub⟩, rfl, hs', hg'⟩
                        try replace hS := hS.other hg' hSB
                        replace hX5 := hX5.step hs' hg'
                        clear hs' hg'
                        go_wp2_with fail
                        refine hK.out _ _ ?_ (fun hHeld => ?_)
                        · (trivial)
                        clear hK K
                        try simp only [Act.put, List.setIfInBounds_toArray, List.set_cons_zero, List.set_cons_succ]
                        refine run_at 7 rfl (by kernel_rfl) (by rfl) (fun K hK => ?_)
                        go_simp
                        obtain ⟨hS, hSB⟩ := strs_two hX5 hm
                        replace hX5 := hX5.alloc (.cells #[.string ⟨#[]⟩, .string hm] 9)
                        go_wp2_with fail
                        refine hK.out _ _ ?_ (fun hHeld => ?_)
                        · (trivial)
                        clear hK K
                        try simp only [Act.put, List.setIfInBounds_toArray, List.set_cons_zero, List.set_cons_succ]
                        refine run_at 8 rfl (by kernel_rfl) (by rfl) (fun K hK => ?_)
                        go_simp
                        refine (some_calls B _ _ _ [K_none, hm] _ hX5.st (by omega) hS hSB (by simp)).mono ?_
                        rintro e w' ⟨v, ⟨cX, rfl, hcX⟩, rfl, hs', hg'⟩
                        have hcX40 : cX.size ≤ 40 := by
                          simp only [List.mem_cons, List.not_mem_nil, or_false] at hcX
                          rcases hcX with rfl | rfl
                          · decide
                          · exact hh40
                        replace hX5 := hX5.step hs' hg'
                        clear hs' hg' hcX
                        go_wp2_with fail
                        refine hK.out _ _ ?_ (fun hHeld => ?_)
                        · (trivial)
                        clear hK K
                        try simp only [Act.put, List.setIfInBounds_toArray, List.set_cons_zero, List.set_cons_succ]
                        refine run_at 10 rfl (by kernel_rfl) (by rfl) (fun K hK => ?_)
                        obtain ⟨q0, q1, q2, q3, qf⟩ := hX5.cells
                        dsimp only at q0 q1 q2 q3
                        go_simp
                        refine hK.out _ _ ?_ (fun hHeld => ?_)
                        · (trivial)
                        clear hK K
                        try simp only [Act.put, List.setIfInBounds_toArray, List.set_cons_zero, List.set_cons_succ]
                        refine take_at 11 54 (v := ?_) rfl rfl (by kernel_rfl) (by kernel_rfl) (by kernel_rfl) (fun _ _ _ h => h) (by rfl) ?y11aba (by assumption) ?r11aba
                        case y11aba =>
                          intro w hSw
                          try dsimp only at hSw
                          go_simp
                          try with_reducible rfl
                        simp only [List.set_cons_zero, List.set_cons_succ]
                        refine run_at 12 rfl (by kernel_rfl) (by rfl) (fun K hK => ?_)
                        go_simp
                        refine hK.out _ _ ?_ (fun hHeld => ?_)
                        · (trivial)
                        clear hK K
                        try simp only [Act.put, List.setIfInBounds_toArray, List.set_cons_zero, List.set_cons_succ]
                        refine take_at 13 55 (v := ?_) rfl rfl (by kernel_rfl) (by kernel_rfl) (by kernel_rfl) (fun _ _ _ h => h) (by rfl) ?y13aba (by assumption) ?r13aba
                        case y13aba =>
                          intro w hSw
                          try dsimp only at hSw
                          go_simp
                          try with_reducible rfl
                        simp only [List.set_cons_zero, List.set_cons_succ]
                        refine run_at 14 rfl (by kernel_rfl) (by rfl) (fun K hK => ?_)
                        go_simp
                        refine hK.out _ _ ?_ (fun hHeld => ?_)
                        · (trivial)
                        clear hK K
                        try simp only [Act.put, List.setIfInBounds_toArray, List.set_cons_zero, List.set_cons_succ]
                        refine wpAnyH_done (by kernel_rfl) ?_ _
                        go_wp2_with fail
                        go_meet
                        case rel => exact ⟨⟨na, nb, cX, aw'⟩, ⟨hcX40, ha40', hla, hua, hlb, hub⟩, (hX5.put hBw hXw (gb_trans (gb_setCell _ _ _ _) (gb_trans (gb_setCell _ _ _ _) (gb_setCell _ _ _ _))) (by simp [World.setCell, Array.getElem?_modify, hX5.x]) hoX).mono (by omega)⟩
                      · go_simp
                        obtain ⟨hS, hSB⟩ := strs_two hX5 hm
                        replace hX5 := hX5.alloc (.cells #[.string ⟨#[]⟩, .string hm] 9)
                        go_wp2_with fail
                        refine hK.out _ _ ?_ (fun hHeld => ?_)
                        · (trivial)
                        clear hK K
                        try simp only [Act.put, List.setIfInBounds_toArray, List.set_cons_zero, List.set_cons_succ]
                        refine run_at 3 rfl (by kernel_rfl) (by rfl) (fun K hK => ?_)
                        go_simp
                        refine (odd_calls B _ 0 500 _ hX5.st (by omega) (by omega) (by omega) (by omega)).mono ?_
                        rintro e w' ⟨v, ⟨nb, rfl, hlb, hub⟩, rfl, hs', hg'⟩
                        try replace hS := hS.other hg' hSB
                        replace hX5 := hX5.step hs' hg'
                        clear hs' hg'
                        go_wp2_with fail
                        refine hK.out _ _ ?_ (fun hHeld => ?_)
                        · (trivial)
                        clear hK K
                        try simp only [Act.put, List.setIfInBounds_toArray, List.set_cons_zero, List.set_cons_succ]
                        refine run_at 8 rfl (by kernel_rfl) (by rfl) (fun K hK => ?_)
                        go_simp
                        refine (some_calls B _ _ _ [K_none, hm] _ hX5.st (by omega) hS hSB (by simp)).mono ?_
                        rintro e w' ⟨v, ⟨cX, rfl, hcX⟩, rfl, hs', hg'⟩
                        have hcX40 : cX.size ≤ 40 := by
                          simp only [List.mem_cons, List.not_mem_nil, or_false] at hcX
                          rcases hcX with rfl | rfl
                          · decide
                          · exact hh40
                        replace hX5 := hX5.step hs' hg'
                        clear hs' hg' hcX
                        go_wp2_with fail
                        refine hK.out _ _ ?_ (fun hHeld => ?_)
                        · (trivial)
                        clear hK K
                        try simp only [Act.put, List.setIfInBounds_toArray, List.set_cons_zero, List.set_cons_succ]
                        refine run_at 10 rfl (by kernel_rfl) (by rfl) (fun K hK => ?_)
                        obtain ⟨q0, q1, q2, q3, qf⟩ := hX5.cells
                        dsimp only at q0 q1 q2 q3
                        go_simp
                        refine hK.out _ _ ?_ (fun hHeld => ?_)
                        · (trivial)
                        clear hK K
                        try simp only [Act.put, List.setIfInBounds_toArray, List.set_cons_zero, List.set_cons_succ]
                        refine take_at 11 54 (v := ?_) rfl rfl (by kernel_rfl) (by kernel_rfl) (by kernel_rfl) (fun _ _ _ h => h) (by rfl) ?y11abb (by assumption) ?r11abb
                        case y11abb =>
                          intro w hSw
                          try dsimp only at hSw
                          go_simp
                          try with_reducible rfl
                        simp only [List.set_cons_zero, List.set_cons_succ]
                        refine run_at 12 rfl (by kernel_rfl) (by rfl) (fun K hK => ?_)
                        go_simp
                        refine hK.out _ _ ?_ (fun hHeld => ?_)
                        · (trivial)
                        clear hK K
                        try simp only [Act.put, List.setIfInBounds_toArray, List.set_cons_zero, List.set_cons_succ]
                        refine take_at 13 55 (v := ?_) rfl rfl (by kernel_rfl) (by kernel_rfl) (by kernel_rfl) (fun _ _ _ h => h) (by rfl) ?y13abb (by assumption) ?r13abb
                        case y13abb =>
                          intro w hSw
                          try dsimp only at hSw
                          go_simp
                          try with_reducible rfl
                        simp only [List.set_cons_zero, List.set_cons_succ]
                        refine run_at 14 rfl (by kernel_rfl) (by rfl) (fun K hK => ?_)
                        go_simp
                        refine hK.out _ _ ?_ (fun hHeld => ?_)
                        · (trivial)
                        clear hK K
                        try simp only [Act.put, List.setIfInBounds_toArray, List.set_cons_zero, List.set_cons_succ]
                        refine wpAnyH_done (by kernel_rfl) ?_ _
                        go_wp2_with fail
                        go_meet
                        case rel => exact ⟨⟨na, nb, cX, aw'⟩, ⟨hcX40, ha40', hla, hua, hlb, hub⟩, (hX5.put hBw hXw (gb_trans (gb_setCell _ _ _ _) (gb_trans (gb_setCell _ _ _ _) (gb_setCell _ _ _ _))) (by simp [World.setCell, Array.getElem?_modify, hX5.x]) hoX).mono (by omega)⟩
                  · obtain ⟨q0, q1, q2, q3, qf⟩ := hX5.cells
                    dsimp only at q0 q1 q2 q3
                    go_simp
                    clear q0 q1 q2 q3 qf
                    go_wp2_with fail
                    refine hK.out _ _ ?_ (fun hHeld => ?_)
                    · (trivial)
                    clear hK K
                    try simp only [Act.put, List.setIfInBounds_toArray, List.set_cons_zero, List.set_cons_succ]
                    refine run_at2 1 7 rfl rfl (by kernel_rfl) (by rfl) (by rfl) (fun K hK => ?_) (fun K hK => ?_)
                    · go_simp
                      refine (odd_calls B _ 1 60 _ hX5.st (by omega) (by omega) (by omega) (by omega)).mono ?_
                      rintro e w' ⟨v, ⟨na, rfl, hla, hua⟩, rfl, hs', hg'⟩
                      try replace hS := hS.other hg' hSB
                      replace hX5 := hX5.step hs' hg'
                      clear hs' hg'
                      go_wp2_with fail
                      refine hK.out _ _ ?_ (fun hHeld => ?_)
                      · (trivial)
                      clear hK K
                      try simp only [Act.put, List.setIfInBounds_toArray, List.set_cons_zero, List.set_cons_succ]
                      refine take_at 9 53 (v := ?_) rfl rfl (by kernel_rfl) (by kernel_rfl) (by kernel_rfl) (fun _ _ _ h => h) (by rfl) ?y9ba (by assumption) ?r9ba
                      case y9ba =>
                        intro w hSw
                        try dsimp only at hSw
                        go_simp
                        try with_reducible rfl
                      simp only [List.set_cons_zero, List.set_cons_succ]
                      refine run_at2 3 7 rfl rfl (by kernel_rfl) (by rfl) (by rfl) (fun K hK => ?_) (fun K hK => ?_)
                      · go_simp
                        refine (odd_calls B _ 0 500 _ hX5.st (by omega) (by omega) (by omega) (by omega)).mono ?_
                        rintro e w' ⟨v, ⟨nb, rfl, hlb, hub⟩, rfl, hs', hg'⟩
                        try replace hS := hS.other hg' hSB
                        replace hX5 := hX5.step hs' hg'
                        clear hs' hg'
                        go_wp2_with fail
                        refine hK.out _ _ ?_ (fun hHeld => ?_)
                        · (trivial)
                        clear hK K
                        try simp only [Act.put, List.setIfInBounds_toArray, List.set_cons_zero, List.set_cons_succ]
                        refine run_at 7 rfl (by kernel_rfl) (by rfl) (fun K hK => ?_)
                        go_simp
                        obtain ⟨hS, hSB⟩ := strs_two hX5 hm
                        replace hX5 := hX5.alloc (.cells #[.string ⟨#[]⟩, .string hm] 9)
                        go_wp2_with fail
                        refine hK.out _ _ ?_ (fun hHeld => ?_)
                        · (trivial)
                        clear hK K
                        try simp only [Act.put, List.setIfInBounds_toArray, List.set_cons_zero, List.set_cons_succ]
                        refine run_at 8 rfl (by kernel_rfl) (by rfl) (fun K hK => ?_)
                        go_simp
                        refine (some_calls B _ _ _ [K_none, hm] _ hX5.st (by omega) hS hSB (by simp)).mono ?_
                        rintro e w' ⟨v, ⟨cX, rfl, hcX⟩, rfl, hs', hg'⟩
                        have hcX40 : cX.size ≤ 40 := by
                          simp only [List.mem_cons, List.not_mem_nil, or_false] at hcX
                          rcases hcX with rfl | rfl
                          · decide
                          · exact hh40
                        replace hX5 := hX5.step hs' hg'
                        clear hs' hg' hcX
                        go_wp2_with fail
                        refine hK.out _ _ ?_ (fun hHeld => ?_)
                        · (trivial)
                        clear hK K
                        try simp only [Act.put, List.setIfInBounds_toArray, List.set_cons_zero, List.set_cons_succ]
                        refine run_at 10 rfl (by kernel_rfl) (by rfl) (fun K hK => ?_)
                        obtain ⟨q0, q1, q2, q3, qf⟩ := hX5.cells
                        dsimp only at q0 q1 q2 q3
                        go_simp
                        refine hK.out _ _ ?_ (fun hHeld => ?_)
                        · (trivial)
                        clear hK K
                        try simp only [Act.put, List.setIfInBounds_toArray, List.set_cons_zero, List.set_cons_succ]
                        refine take_at 11 54 (v := ?_) rfl rfl (by kernel_rfl) (by kernel_rfl) (by kernel_rfl) (fun _ _ _ h => h) (by rfl) ?y11baa (by assumption) ?r11baa
                        case y11baa =>
                          intro w hSw
                          try dsimp only at hSw
                          go_simp
                          try with_reducible rfl
                        simp only [List.set_cons_zero, List.set_cons_succ]
                        refine run_at 12 rfl (by kernel_rfl) (by rfl) (fun K hK => ?_)
                        go_simp
                        refine hK.out _ _ ?_ (fun hHeld => ?_)
                        · (trivial)
                        clear hK K
                        try simp only [Act.put, List.setIfInBounds_toArray, List.set_cons_zero, List.set_cons_succ]
                        refine take_at 13 55 (v := ?_) rfl rfl (by kernel_rfl) (by kernel_rfl) (by kernel_rfl) (fun _ _ _ h => h) (by rfl) ?y13baa (by assumption) ?r13baa
                        case y13baa =>
                          intro w hSw
                          try dsimp only at hSw
                          go_simp
                          try with_reducible rfl
                        simp only [List.set_cons_zero, List.set_cons_succ]
                        refine run_at 14 rfl (by kernel_rfl) (by rfl) (fun K hK => ?_)
                        go_simp
                        refine hK.out _ _ ?_ (fun hHeld => ?_)
                        · (trivial)
                        clear hK K
                        try simp only [Act.put, List.setIfInBounds_toArray, List.set_cons_zero, List.set_cons_succ]
                        refine wpAnyH_done (by kernel_rfl) ?_ _
                        go_wp2_with fail
                        go_meet
                        case rel => exact ⟨⟨na, nb, cX, aw'⟩, ⟨hcX40, ha40', hla, hua, hlb, hub⟩, (hX5.put hBw hXw (gb_trans (gb_setCell _ _ _ _) (gb_trans (gb_setCell _ _ _ _) (gb_setCell _ _ _ _))) (by simp [World.setCell, Array.getElem?_modify, hX5.x]) hoX).mono (by omega)⟩
                      · go_simp
                        obtain ⟨hS, hSB⟩ := strs_two hX5 hm
                        replace hX5 := hX5.alloc (.cells #[.string ⟨#[]⟩, .string hm] 9)
                        go_wp2_with fail
                        refine hK.out _ _ ?_ (fun hHeld => ?_)
                        · (trivial)
                        clear hK K
                        try simp only [Act.put, List.setIfInBounds_toArray, List.set_cons_zero, List.set_cons_succ]
                        refine run_at 3 rfl (by kernel_rfl) (by rfl) (fun K hK => ?_)
                        go_simp
                        refine (odd_calls B _ 0 500 _ hX5.st (by omega) (by omega) (by omega) (by omega)).mono ?_
                        rintro e w' ⟨v, ⟨nb, rfl, hlb, hub⟩, rfl, hs', hg'⟩
                        try replace hS := hS.other hg' hSB
                        replace hX5 := hX5.step hs' hg'
                        clear hs' hg'
                        go_wp2_with fail
                        refine hK.out _ _ ?_ (fun hHeld => ?_)
                        · (trivial)
                        clear hK K
                        try simp only [Act.put, List.setIfInBounds_toArray, List.set_cons_zero, List.set_cons_succ]
                        refine run_at 8 rfl (by kernel_rfl) (by rfl) (fun K hK => ?_)
                        go_simp
                        refine (some_calls B _ _ _ [K_none, hm] _ hX5.st (by omega) hS hSB (by simp)).mono ?_
                        rintro e w' ⟨v, ⟨cX, rfl, hcX⟩, rfl, hs', hg'⟩
                        have hcX40 : cX.size ≤ 40 := by
                          simp only [List.mem_cons, List.not_mem_nil, or_false] at hcX
                          rcases hcX with rfl | rfl
                          · decide
                          · exact hh40
                        replace hX5 := hX5.step hs' hg'
                        clear hs' hg' hcX
                        go_wp2_with fail
                        refine hK.out _ _ ?_ (fun hHeld => ?_)
                        · (trivial)
                        clear hK K
                        try simp only [Act.put, List.setIfInBounds_toArray, List.set_cons_zero, List.set_cons_succ]
                        refine run_at 10 rfl (by kernel_rfl) (by rfl) (fun K hK => ?_)
                        obtain ⟨q0, q1, q2, q3, qf⟩ := hX5.cells
                        dsimp only at q0 q1 q2 q3
                        go_simp
                        refine hK.out _ _ ?_ (fun hHeld => ?_)
                        · (trivial)
                        clear hK K
                        try simp only [Act.put, List.setIfInBounds_toArray, List.set_cons_zero, List.set_cons_succ]
                        refine take_at 11 54 (v := ?_) rfl rfl (by kernel_rfl) (by kernel_rfl) (by kernel_rfl) (fun _ _ _ h => h) (by rfl) ?y11bab (by assumption) ?r11bab
                        case y11bab =>
                          intro w hSw
                          try dsimp only at hSw
                          go_simp
                          try with_reducible rfl
                        simp only [List.set_cons_zero, List.set_cons_succ]
                        refine run_at 12 rfl (by kernel_rfl) (by rfl) (fun K hK => ?_)
                        go_simp
                        refine hK.out _ _ ?_ (fun hHeld => ?_)
                        · (trivial)
                        clear hK K
                        try simp only [Act.put, List.setIfInBounds_toArray, List.set_cons_zero, List.set_cons_succ]
                        refine take_at 13 55 (v := ?_) rfl rfl (by kernel_rfl) (by kernel_rfl) (by kernel_rfl) (fun _ _ _ h => h) (by rfl) ?y13bab (by assumption) ?r13bab
                        case y13bab =>
                          intro w hSw
                          try dsimp only at hSw
                          go_simp
                          try with_reducible rfl
                        simp only [List.set_cons_zero, List.set_cons_succ]
                        refine run_at 14 rfl (by kernel_rfl) (by rfl) (fun K hK => ?_)
                        go_simp
                        refine hK.out _ _ ?_ (fun hHeld => ?_)
                        · (trivial)
                        clear hK K
                        try simp only [Act.put, List.setIfInBounds_toArray, List.set_cons_zero, List.set_cons_succ]
                        refine wpAnyH_done (by kernel_rfl) ?_ _
                        go_wp2_with fail
                        go_meet
                        case rel => exact ⟨⟨na, nb, cX, aw'⟩, ⟨hcX40, ha40', hla, hua, hlb, hub⟩, (hX5.put hBw hXw (gb_trans (gb_setCell _ _ _ _) (gb_trans (gb_setCell _ _ _ _) (gb_setCell _ _ _ _))) (by simp [World.setCell, Array.getElem?_modify, hX5.x]) hoX).mono (by omega)⟩
                    · go_simp
                      obtain ⟨hS, hSB⟩ := strs_two hX5 hm
                      replace hX5 := hX5.alloc (.cells #[.string ⟨#[]⟩, .string hm] 9)
                      go_wp2_with fail
                      refine hK.out _ _ ?_ (fun hHeld => ?_)
                      · (trivial)
                      clear hK K
                      try simp only [Act.put, List.setIfInBounds_toArray, List.set_cons_zero, List.set_cons_succ]
                      refine run_at 1 rfl (by kernel_rfl) (by rfl) (fun K hK => ?_)
                      go_simp
                      refine (odd_calls B _ 1 60 _ hX5.st (by omega) (by omega) (by omega) (by omega)).mono ?_
                      rintro e w' ⟨v, ⟨na, rfl, hla, hua⟩, rfl, hs', hg'⟩
                      try replace hS := hS.other hg' hSB
                      replace hX5 := hX5.step hs' hg'
                      clear hs' hg'
                      go_wp2_with fail
                      refine hK.out _ _ ?_ (fun hHeld => ?_)
                      · (trivial)
                      clear hK K
                      try simp only [Act.put, List.setIfInBounds_toArray, List.set_cons_zero, List.set_cons_succ]
                      refine take_at 9 53 (v := ?_) rfl rfl (by kernel_rfl) (by kernel_rfl) (by kernel_rfl) (fun _ _ _ h => h) (by rfl) ?y9bb (by assumption) ?r9bb
                      case y9bb =>
                        intro w hSw
                        try dsimp only at hSw
                        go_simp
                        try with_reducible rfl
                      simp only [List.set_cons_zero, List.set_cons_succ]
                      refine run_at 3 rfl (by kernel_rfl) (by rfl) (fun K hK => ?_)
                      go_simp
                      refine (odd_calls B _ 0 500 _ hX5.st (by omega) (by omega) (by omega) (by omega)).mono ?_
                      rintro e w' ⟨v, ⟨nb, rfl, hlb, hub⟩, rfl, hs', hg'⟩
                      try replace hS := hS.other hg' hSB
                      replace hX5 := hX5.step hs' hg'
                      clear hs' hg'
                      go_wp2_with fail
                      refine hK.out _ _ ?_ (fun hHeld => ?_)
                      · (trivial)
                      clear hK K
                      try simp only [Act.put, List.setIfInBounds_toArray, List.set_cons_zero, List.set_cons_succ]
                      refine run_at 8 rfl (by kernel_rfl) (by rfl) (fun K hK => ?_)
                      go_simp
                      refine (some_calls B _ _ _ [K_none, hm] _ hX5.st (by omega) hS hSB (by simp)).mono ?_
                      rintro e w' ⟨v, ⟨cX, rfl, hcX⟩, rfl, hs', hg'⟩
                      have hcX40 : cX.size ≤ 40 := by
                        simp only [List.mem_cons, List.not_mem_nil, or_false] at hcX
                        rcases hcX with rfl | rfl
                        · decide
                        · exact hh40
                      replace hX5 := hX5.step hs' hg'
                      clear hs' hg' hcX
                      go_wp2_with fail
                      refine hK.out _ _ ?_ (fun hHeld => ?_)
                      · (trivial)
                      clear hK K
                      try simp only [Act.put, List.setIfInBounds_toArray, List.set_cons_zero, List.set_cons_succ]
                      refine run_at 10 rfl (by kernel_rfl) (by rfl) (fun K hK => ?_)
                      obtain ⟨q0, q1, q2, q3, qf⟩ := hX5.cells
                      dsimp only at q0 q1 q2 q3
                      go_simp
                      refine hK.out _ _ ?_ (fun hHeld => ?_)
                      · (trivial)
                      clear hK K
                      try simp only [Act.put, List.setIfInBounds_toArray, List.set_cons_zero, List.set_cons_succ]
                      refine take_at 11 54 (v := ?_) rfl rfl (by kernel_rfl) (by kernel_rfl) (by kernel_rfl) (fun _ _ _ h => h) (by rfl) ?y11bb (by assumption) ?r11bb
                      case y11bb =>
                        intro w hSw
                        try dsimp only at hSw
                        go_simp
                        try with_reducible rfl
                      simp only [List.set_cons_zero, List.set_cons_succ]
                      refine run_at 12 rfl (by kernel_rfl) (by rfl) (fun K hK => ?_)
                      go_simp
                      refine hK.out _ _ ?_ (fun hHeld => ?_)
                      · (trivial)
                      clear hK K
                      try simp only [Act.put, List.setIfInBounds_toArray, List.set_cons_zero, List.set_cons_succ]
                      refine take_at 13 55 (v := ?_) rfl rfl (by kernel_rfl) (by kernel_rfl) (by kernel_rfl) (fun _ _ _ h => h) (by rfl) ?y13bb (by assumption) ?r13bb
                      case y13bb =>
                        intro w hSw
                        try dsimp only at hSw
                        go_simp
                        try with_reducible rfl
                      simp only [List.set_cons_zero, List.set_cons_succ]
                      refine run_at 14 rfl (by kernel_rfl) (by rfl) (fun K hK => ?_)
                      go_simp
                      refine hK.out _ _ ?_ (fun hHeld => ?_)
                      · (trivial)
                      clear hK K
                      try simp only [Act.put, List.setIfInBounds_toArray, List.set_cons_zero, List.set_cons_succ]
                      refine wpAnyH_done (by kernel_rfl) ?_ _
                      go_wp2_with fail
                      go_meet
                      case rel => exact ⟨⟨na, nb, cX, aw'⟩, ⟨hcX40, ha40', hla, hua, hlb, hub⟩, (hX5.put hBw hXw (gb_trans (gb_setCell _ _ _ _) (gb_trans (gb_setCell _ _ _ _) (gb_setCell _ _ _ _))) (by simp [World.setCell, Array.getElem?_modify, hX5.x]) hoX).mono (by omega)⟩
              case rest =>
                obtain ⟨f, hok, hXe⟩ := hcut
                clear hX4
                obtain ⟨c0, c1, c2, c3, cf⟩ := hXe.cells
                obtain ⟨fw, fm, fh, fa⟩ := f
                dsimp only at c0 c1 c2 c3
                have hXlt := lt_of_heap hXe.x
                go_wp2_with (at_builtin; refine wpList_append_own _ rfl _ _ 51 rfl w.heap.size 72 i0 (.agg #[.int .i64 0, .int .i64 0, .string ⟨#[]⟩, .string ⟨#[]⟩]) 4 48 Tryz.underlying51 hi hz0 hz1 hz2 rfl (by decide) _ _ _ rfl (World.ownsRow.alloc hXe.own _) ⟨wc.heap.size, 0, none⟩ 1 1 [.int .i64 fw, .int .i64 fm, .string fh, .string fa] rfl rfl ?c1 ?c2 ?c3 ?c4 ?c5 ?_)
                case c1 => exact cell_four_new _ _ _ _ _ _
                case c2 => simp [Value.oneCell']
                case c3 => unfold maxLen; omega
                case c4 => omega
                case c5 => simp; have := hXe.gb.size; omega
                intro v' w6 hown6 hgrow _
                have hs6 := ((hXe.st.alloc (.cells #[.int .i64 fw, .int .i64 fm, .string fh, .string fa] 72)).grown hgrow fun r hr => by have := (own_block hXe.own r hr).1; omega)
                have hg6 := gb_then (gb_trans hXe.gb (gb_alloc wc (.cells #[.int .i64 fw, .int .i64 fm, .string fh, .string fa] 72) _)) hgrow fun r hr => (own_block hXe.own r hr).1
                have hown6' : OwnFx w6 w.heap.size v' (fs' ++ [⟨fw, fm, fh, fa⟩]) := by unfold OwnFx; simpa [fxRow] using hown6
                have Hfs6 : Hid (∀ f ∈ fs' ++ [⟨fw, fm, fh, fa⟩], OkF f) := Lib.hid fun f hf => by
                  rcases List.mem_append.1 hf with h | h
                  · exact Hfs'.out f h
                  · obtain rfl := List.mem_singleton.1 h; exact hok
                have HN2 := HN1.out
                clear hown6 hgrow c0 c1 c2 c3 cf hXe
                go_wp2_with fail
                go_roundw
                case rel =>
                  exact ⟨t + 1, _, a + r, by go_num, by omega, rfl, by omega, by omega, by simp; omega, Hfs6, hown6', hs6.mono (by omega), hg6⟩
                case measure => simp [intOf]; omega
        · clear hlt
          go_wp2_with fail
          go_roundw
          case rel => exact ⟨k + 1, fs', by go_num, by omega, by omega, by omega, Hfs', hown', hs'.mono (by omega), hg'⟩
          case measure => simp [intOf]; omega
    · obtain rfl : k = 5 := by omega
      rcases hown.2 with ⟨rfl, h0⟩ | ⟨g, cap, cur, rfl, _, hgh, hcap, _⟩
      · obtain rfl : fs = [] := List.eq_nil_of_length_eq_zero h0
        clear hown h0
        go_wp2_with fail
        refine (sortFx0_calls wr).mono ?_
        rintro e w' ⟨rfl, rfl⟩
        go_wp2_with fail
        refine (compactFx0_calls wr).mono ?_
        rintro e w' ⟨rfl, rfl⟩
        go_wp2_with fail
        go_ret
        exact ⟨_, ⟨[], ⟨by simp, by simp, .inl ⟨rfl, rfl⟩⟩, by simp, by simp⟩, rfl, hsr.mono (by omega), hg⟩
      · obtain ⟨hr, hlg⟩ := RowsAt.of_owns (rows := fs.map fxRow) (by rw [List.length_map]; exact hown) (by simp [fxRow])
        have hBg : B < g := by omega
        have hl12 : fs.length ≤ 12 := by omega
        have C1 := Lib.hid (sortFx_calls OkF g 0 cap fs wr hr (by omega) Hfs.out)
        have C2 := Lib.hid (compactFx_calls OkF g 0 cap w.heap.size)
        generalize hnn : fs.length = n at C1 hcap hl12
        clear hown hgh hr hpl hnn
        go_wp2_with fail
        refine C1.out.mono ?_
        rintro e w1 ⟨rfl, fs1, hn1, hr1, hg1, hq1⟩
        have C3 := Lib.hid (C2.out fs1 w1 hr1 (by omega) (by omega) hlg hq1)
        rw [hn1] at C3
        clear C1 C2 hr1 hq1 hn1
        go_wp2_with fail
        refine C3.out.mono ?_
        rintro e w2 ⟨v', fs2, rfl, hF, hl2, hg2, hq2⟩
        have HF := Lib.hid hF
        have Hq := Lib.hid hq2
        have hs2 := (hsr.grown hg1 (fun r hr => by cases hr; exact hBg)).grown hg2 (fun r hr => by cases hr; exact hBg)
        have hgg := gb_then (gb_then hg hg1 fun r hr => by cases hr; exact hlg) hg2 fun r hr => by cases hr; exact hlg
        clear C3 hF hq2
        go_wp2_with fail
        go_ret
        exact ⟨_, ⟨fs2, HF.out, by omega, Hq.out⟩, rfl, hs2.mono (by omega), hgg⟩
end Go.Proofs.YtmjkbmkjnbpgeaaGreatDoor
