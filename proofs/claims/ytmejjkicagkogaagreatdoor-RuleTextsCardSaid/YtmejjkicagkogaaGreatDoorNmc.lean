/- Numbers read, on both sides. -/
import Derived.Test.YtmejjkicagkogaaGreatDoorNum
import Derived.Test.YtmejjkicagkogaaGreatDoorRefa
import Derived.Test.YtmejjkicagkogaaGreatDoorFrt
import Derived.Lib.AtoiErrMem
namespace Go.Proofs.YtmejjkicagkogaaGreatDoor
open Go.RowKit Go.Shelf

/-- What a reader of numbers finds in memory: the writer's table, the bound of the library's search, the error for a bad number. -/
structure GlobT (w : World) : Prop where
  dig : DigB w
  max : ∃ m : Int, w.cell? ⟨1, 0, none⟩ = some (.int .i64 m)
  err : ∃ tp p, w.var? Tryz.prog "strconv.ErrSyntax" = some #[.iface tp p]
theorem err_named : Tryz.prog.globalNamed "strconv.ErrSyntax" = some 2 := by kernel_rfl
theorem GlobT.below {w w' : World} (h : GlobT w) (hb : Below w.heap.size w w') : GlobT w' := by
  obtain ⟨h1, ⟨m, h2⟩, tp, p, h3⟩ := h
  refine ⟨h1.below hb, ⟨m, below_cell hb h2⟩, tp, p, ?_⟩
  unfold World.var? at h3 ⊢
  rw [err_named] at h3 ⊢
  simp only [Option.bind_some] at h3 ⊢
  have hlt : 2 < w.heap.size := by
    rcases Nat.lt_or_ge 2 w.heap.size with h' | h'
    · exact h'
    · rw [Array.getElem?_eq_none h'] at h3; cases h3
  rw [hb.block _ hlt]
  exact h3
theorem itoaS_iff {n : Int} {s : ByteArray} : itoaS n = s ↔ Lib.itoa n = s.data.toList := by
  unfold itoaS
  constructor
  · intro h; rw [← h]
  · intro h
    apply ByteArray.ext
    show (Lib.itoa n).toArray = s.data
    rw [h]
def trimS (s : ByteArray) : ByteArray := ⟨(trimL s.data.toList).toArray⟩
theorem trimS_size (s : ByteArray) : (trimS s).size = (trimL s.data.toList).length := by show (List.toArray _).size = _; simp
theorem len_size (s : ByteArray) : s.data.toList.length = s.size := by rw [Array.length_toList]; rfl
theorem trim_calls (s : ByteArray) (w : World) : Calls Tryz.prog 69 #[.string s, .string ⟨#[45]⟩] w fun e w' => e = .returned (.string (trimS s)) ∧ w' = w := Tryz.strings_TrimPrefix s ⟨#[45]⟩ w
theorem bytes_below (w : World) (t : TypeId) (b : ByteArray) : Below w.heap.size w (Lib.bytesWorld w t b) := Lib.bytesWorld_below _ _ _
theorem str_beq (a b : ByteArray) : (a.toList == b.toList) = beqS a b := rfl
set_option maxRecDepth 100000 in
set_option maxHeartbeats 2000000 in
theorem number_calls (s : ByteArray) (w : World) (hG : GlobT w) :
    Calls Tryz.prog 65 #[.string s, .int .i64 15] w fun e w' => e = .returned (.tuple #[.int .i64 ((numV s.data.toList).getD 0), .bool (numV s.data.toList).isSome]) ∧ Below w.heap.size w w' := by
  have hz := trimS_size s
  by_cases hl : 15 < (trimL s.data.toList).length
  · have HV := Lib.hid (show numV s.data.toList = none by unfold numV; rw [if_pos hl])
    have hd : decide ((15 : Int) < ((trimS s).size : Int)) = true := decide_eq_true (by omega)
    clear hl hz
    go_enter Tryz.func65, Tryz.ntmps65
    go_wp2_with fail
    refine (trim_calls s w).mono ?_
    rintro e w1 ⟨rfl, rfl⟩
    generalize trimS s = T at hd ⊢
    go_wp2_with fail
    go_ret2
    rw [HV.out]
    exact ⟨rfl, Below.refl _ _⟩
  · have hn16 := num_len hl
    rw [len_size] at hn16
    have hd : decide ((15 : Int) < ((trimS s).size : Int)) = false := decide_eq_false (by omega)
    have hlt : ¬ (15 : Int) < ((trimS s).size : Int) := by omega
    cases ha : Lib.atoi s.data.toList with
    | none =>
      obtain ⟨tp, p, hv⟩ := hG.err
      have HV := Lib.hid (show numV s.data.toList = none by unfold numV; rw [if_neg hl, ha])
      have C := Lib.hid (Tryz.strconv_Atoi_err_var s (by omega) ha tp p w hv)
      clear hl hz ha hG hv
      go_enter Tryz.func65, Tryz.ntmps65
      go_wp2_with fail
      refine (trim_calls s w).mono ?_
      rintro e w1 ⟨rfl, rfl⟩
      generalize trimS s = T at hd hlt ⊢
      go_wp2_with fail
      refine C.out.mono ?_
      rintro e w2 ⟨N, rfl, -, -, hb⟩
      clear C
      go_wp2_with fail
      go_ret2
      rw [HV.out]
      exact ⟨rfl, hb⟩
    | some n =>
      have hsm := atoi_small hl ha
      have C1 := Lib.hid (fun w => Tryz.strconv_Atoi s n (by omega) ha w)
      have C2 := Lib.hid (fun w' (hb : Below w.heap.size w w') => itoa_calls n w' (by unfold Int64; omega) (hG.dig w' hb))
      by_cases he : Lib.itoa n = s.data.toList
      · have HV := Lib.hid (show numV s.data.toList = some n by unfold numV; rw [if_neg hl, ha]; simp only; rw [if_pos he])
        have e2 : ((itoaS n).toList != s.toList) = false := by rw [itoaS_iff.2 he]; simp
        have e3 : ((itoaS n).toList == s.toList) = true := by rw [itoaS_iff.2 he]; simp
        clear hl hz ha hG he
        go_enter Tryz.func65, Tryz.ntmps65
        go_wp2_with fail
        refine (trim_calls s w).mono ?_
        rintro e w1 ⟨rfl, rfl⟩
        generalize trimS s = T at hd hlt ⊢
        go_wp2_with fail
        refine (C1.out _).mono ?_
        rintro e w2 ⟨rfl, t, hw2⟩
        have hb2 : Below w1.heap.size w1 w2 := by rw [hw2]; exact bytes_below _ _ _
        clear hw2 C1
        go_wp2_with fail
        refine (C2.out _ hb2).mono ?_
        rintro e w3 ⟨rfl, hb3⟩
        have hb4 := below_step hb2 hb3
        clear hb2 hb3 C2
        generalize itoaS n = I at e2 e3 ⊢
        go_wp2_with fail
        go_ret2
        rw [HV.out]
        exact ⟨rfl, hb4⟩
      · have HV := Lib.hid (show numV s.data.toList = none by unfold numV; rw [if_neg hl, ha]; simp only; rw [if_neg he])
        have e3 : ((itoaS n).toList == s.toList) = false := by
          cases h : (itoaS n).toList == s.toList with
          | false => rfl
          | true => exact absurd (itoaS_iff.1 (beqS_iff.1 h)) he
        have e2 : ((itoaS n).toList != s.toList) = true := by unfold bne; rw [e3]; rfl
        clear hl hz ha hG he
        go_enter Tryz.func65, Tryz.ntmps65
        go_wp2_with fail
        refine (trim_calls s w).mono ?_
        rintro e w1 ⟨rfl, rfl⟩
        generalize trimS s = T at hd hlt ⊢
        go_wp2_with fail
        refine (C1.out _).mono ?_
        rintro e w2 ⟨rfl, t, hw2⟩
        have hb2 : Below w1.heap.size w1 w2 := by rw [hw2]; exact bytes_below _ _ _
        clear hw2 C1
        go_wp2_with fail
        refine (C2.out _ hb2).mono ?_
        rintro e w3 ⟨rfl, hb3⟩
        have hb4 := below_step hb2 hb3
        clear hb2 hb3 C2
        generalize itoaS n = I at e2 e3 ⊢
        go_wp2_with fail
        go_ret2
        rw [HV.out]
        exact ⟨rfl, hb4⟩
/-- The digits. -/
def digitsS : ByteArray := ⟨#[48, 49, 50, 51, 52, 53, 54, 55, 56, 57]⟩
theorem inB_digits (x : UInt8) : inB digitsS (x.toNat : Int) = digC x := by
  have h : ∀ x : Fin 256, inB digitsS (x.val : Int) = digC (UInt8.ofNat x.val) := by decide +kernel
  have := h ⟨x.toNat, x.toNat_lt⟩
  simpa using this
theorem onlyB_digits (s : ByteArray) : onlyB s digitsS = s.data.toList.all digC := by
  unfold onlyB
  have key : ∀ i (h : i < s.size), inB digitsS (byteAt s i) = digC (s.data.toList[i]'(by rw [len_size]; exact h)) := by
    intro i h
    rw [show byteAt s i = (s[i].toNat : Int) by rw [byteAt, dif_pos h], inB_digits]
    rfl
  cases hc : s.data.toList.all digC with
  | true =>
    rw [List.all_eq_true] at hc ⊢
    intro i hi
    rw [key i (List.mem_range.1 hi)]
    exact hc _ (List.getElem_mem _)
  | false =>
    rw [List.all_eq_false] at hc ⊢
    obtain ⟨b, hb, hnb⟩ := hc
    obtain ⟨i, hi, rfl⟩ := List.getElem_of_mem hb
    have hi' : i < s.size := by rw [← len_size]; exact hi
    exact ⟨i, List.mem_range.2 hi', by rw [key i hi']; exact hnb⟩
set_option maxRecDepth 100000 in
set_option maxHeartbeats 2000000 in
theorem numberR_calls (s : ByteArray) (w : World) (hs : s.size ≤ 100000) (hG : GlobT w) :
    Calls Tryz.prog 39 #[.string s, .int .i64 15] w fun e w' => ∃ n : Int, e = .returned (.tuple #[.int .i64 n, .bool (numV s.data.toList).isSome]) ∧ Int64 n ∧ (∀ m, numV s.data.toList = some m → n = m) ∧ Below w.heap.size w w' := by
  have hz := trimS_size s
  have htl := (trim_len s.data.toList).2
  rw [len_size] at htl
  have C3 := Lib.hid (fun w => only_calls (trimS s) digitsS w (by omega))
  have HO := Lib.hid (show onlyB (trimS s) digitsS = (trimL s.data.toList).all digC by rw [onlyB_digits]; rfl)
  have HO' := Lib.hid (fun w => (show Calls Tryz.prog 61 #[.string (trimS s), .string digitsS] w fun e w' => e = .returned (.bool ((trimL s.data.toList).all digC)) ∧ w = w' by rw [← HO.out]; exact C3.out w))
  clear C3 HO
  by_cases h0 : (trimL s.data.toList).length = 0
  · have HV := Lib.hid (show numV s.data.toList = none from numV_bad (by unfold numOk; rw [List.eq_nil_of_length_eq_zero h0]; rfl))
    have e2 : (trimS s).toList.isEmpty = true := by rw [empty_of]; first | exact decide_eq_true (by omega) | exact decide_eq_false (by omega)
    clear htl hG hs HO'
    go_enter Tryz.func39, Tryz.ntmps39
    go_wp2_with fail
    refine (trim_calls s w).mono ?_
    rintro e w1 ⟨rfl, rfl⟩
    generalize trimS s = T at e2 hz ⊢
    clear hz h0
    go_wp2_with fail
    go_ret2
    exact ⟨0, by rw [HV.out]; rfl, by unfold Int64; omega, fun m h => by rw [HV.out] at h; (cases h), Below.refl _ _⟩
  have e2 : (trimS s).toList.isEmpty = false := by rw [empty_of]; first | exact decide_eq_true (by omega) | exact decide_eq_false (by omega)
  have hne : (trimL s.data.toList).isEmpty = false := by
    cases h : trimL s.data.toList with
    | nil => rw [h] at h0; exact absurd rfl h0
    | cons _ _ => rfl
  by_cases hl : 15 < (trimL s.data.toList).length
  · have HV := Lib.hid (show numV s.data.toList = none by unfold numV; rw [if_pos hl])
    have hd : decide ((15 : Int) < ((trimS s).size : Int)) = true := decide_eq_true (by omega)
    have hd' : (15 : Int) < ((trimS s).size : Int) := by omega
    clear htl hG hs HO' hl h0 hne
    go_enter Tryz.func39, Tryz.ntmps39
    go_wp2_with fail
    refine (trim_calls s w).mono ?_
    rintro e w1 ⟨rfl, rfl⟩
    generalize trimS s = T at e2 hd hd' hz ⊢
    clear hz
    go_wp2_with fail
    go_ret2
    exact ⟨0, by rw [HV.out]; rfl, by unfold Int64; omega, fun m h => by rw [HV.out] at h; (cases h), Below.refl _ _⟩
  have hd : decide ((15 : Int) < ((trimS s).size : Int)) = false := decide_eq_false (by omega)
  have hd' : ¬ (15 : Int) < ((trimS s).size : Int) := by omega
  have hn16 := num_len hl
  rw [len_size] at hn16
  cases ho : (trimL s.data.toList).all digC with
  | false =>
    rw [ho] at HO'
    have HV := Lib.hid (show numV s.data.toList = none from numV_bad (by unfold numOk; rw [ho, Bool.and_false]))
    clear htl hG hs hl h0 hne ho hn16
    go_enter Tryz.func39, Tryz.ntmps39
    go_wp2_with fail
    refine (trim_calls s w).mono ?_
    rintro e w1 ⟨rfl, rfl⟩
    generalize trimS s = T at e2 hd hd' hz HO' ⊢
    clear hz
    unfold digitsS at HO'
    go_wp2_with fail
    refine (HO'.out _).mono ?_
    rintro e w2 ⟨rfl, rfl⟩
    go_wp2_with fail
    go_ret2
    exact ⟨0, by rw [HV.out]; rfl, by unfold Int64; omega, fun m h => by rw [HV.out] at h; (cases h), Below.refl _ _⟩
  | true =>
    rw [ho] at HO'
    obtain ⟨n, ha, hv⟩ := numV_ok (l := s.data.toList) (by unfold numOk; rw [hne, ho, decide_eq_true (by omega)]; rfl)
    have hsm := atoi_small hl ha
    have C1 := Lib.hid (fun w => Tryz.strconv_Atoi s n (by omega) ha w)
    have C2 := Lib.hid (fun w' (hb : Below w.heap.size w w') => itoa_calls n w' (by unfold Int64; omega) (hG.dig w' hb))
    have e3 : ∃ q, ((itoaS n).toList == s.toList) = q ∧ ((itoaS n).toList != s.toList) = !q ∧ (numV s.data.toList).isSome = q ∧ ∀ m, numV s.data.toList = some m → n = m := by
      by_cases he : Lib.itoa n = s.data.toList
      · refine ⟨true, by rw [itoaS_iff.2 he]; simp, by rw [itoaS_iff.2 he]; simp, by rw [hv, if_pos he]; rfl, fun m h => ?_⟩
        rw [hv, if_pos he] at h; exact Option.some.inj h
      · have e3 : ((itoaS n).toList == s.toList) = false := by
          cases h : (itoaS n).toList == s.toList with
          | false => rfl
          | true => exact absurd (itoaS_iff.1 (beqS_iff.1 h)) he
        refine ⟨false, e3, by unfold bne; rw [e3], by rw [hv, if_neg he]; rfl, fun m h => ?_⟩
        rw [hv, if_neg he] at h; cases h
    obtain ⟨q, e3, e4, hq, hm⟩ := e3
    have Hq := Lib.hid hq
    have Hm := Lib.hid hm
    have Hsm := Lib.hid (show Int64 n by unfold Int64; omega)
    clear htl hG hs hl h0 hne ho hn16 ha hv hq hm hsm
    go_enter Tryz.func39, Tryz.ntmps39
    go_wp2_with fail
    refine (trim_calls s w).mono ?_
    rintro e w1 ⟨rfl, rfl⟩
    generalize trimS s = T at e2 hd hd' hz HO' ⊢
    clear hz
    unfold digitsS at HO'
    go_wp2_with fail
    refine (HO'.out _).mono ?_
    rintro e w2 ⟨rfl, rfl⟩
    go_wp2_with fail
    refine (C1.out _).mono ?_
    rintro e w3 ⟨rfl, t, hw3⟩
    have hb3 : Below w1.heap.size w1 w3 := by rw [hw3]; exact bytes_below _ _ _
    clear hw3 C1
    go_wp2_with fail
    refine (C2.out _ hb3).mono ?_
    rintro e w4 ⟨rfl, hb4⟩
    have Hb := Lib.hid (below_step hb3 hb4)
    clear hb3 hb4 C2
    generalize itoaS n = I at e3 e4 ⊢
    go_wp2_with fail
    go_ret2
    exact ⟨n, by rw [Hq.out]; rfl, Hsm.out, Hm.out, Hb.out⟩
end Go.Proofs.YtmejjkicagkogaaGreatDoor
