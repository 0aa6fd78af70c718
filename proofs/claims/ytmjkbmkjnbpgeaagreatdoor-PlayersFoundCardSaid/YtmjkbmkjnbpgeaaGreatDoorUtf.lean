/- A plain fact of UTF-8: both sides' ways to say that a string is plain are one, whatever the string. -/
import Derived.Test.YtmjkbmkjnbpgeaaGreatDoorBi
import Derived.Lib.FieldsP
import Derived.Lib.IndexMore
namespace Go.Proofs.YtmjkbmkjnbpgeaaGreatDoor
open Go

/-- The pieces between blanks, bytes alone. -/
def fld : List UInt8 → List UInt8 → List (List UInt8)
  | cur, [] => if cur = [] then [] else [cur]
  | cur, b :: t => if b = 32 then (if cur = [] then fld [] t else cur :: fld [] t) else fld (cur ++ [b]) t
theorem fld_skip : ∀ (xs cur t : List UInt8), (∀ b ∈ xs, b ≠ 32) → fld cur (xs ++ t) = fld (cur ++ xs) t
  | [], cur, t, _ => by simp
  | x :: xs, cur, t, h => by
    rw [List.cons_append, fld, if_neg (h x (by simp)), fld_skip xs (cur ++ [x]) t (fun b hb => h b (by simp [hb]))]
    simp
/-- What a step of the decoder passes over: a blank alone, or bytes none of which is a blank. -/
theorem decode_blank (s : ByteArray) (pos : Nat) :
    ((Utf8.decode s pos).1 = 32 → s.get! pos = 32 ∧ (Utf8.decode s pos).2 = 1) ∧ ((Utf8.decode s pos).1 ≠ 32 → ∀ j, j < (Utf8.decode s pos).2 → s.get! (pos + j) ≠ 32) := by
  have hn : ∀ x : UInt8, x ≠ 32 ↔ x.toNat ≠ 32 := fun x => by
    rw [Ne, Ne, ← UInt8.toNat_inj]; rfl
  have he : ∀ x : UInt8, x = 32 ↔ x.toNat = 32 := fun x => by
    rw [← UInt8.toNat_inj]; rfl
  rw [Lib.decode_at]
  simp only [hn, he]
  generalize h0 : (s.get! pos).toNat = b0
  generalize h1 : (s.get! (pos + 1)).toNat = b1
  generalize h2 : (s.get! (pos + 2)).toNat = b2
  generalize h3 : (s.get! (pos + 3)).toNat = b3
  have key : ∀ k, k < 4 → (s.get! (pos + k)).toNat = if k = 0 then b0 else if k = 1 then b1 else if k = 2 then b2 else b3 := by
    intro k hk
    rcases (show k = 0 ∨ k = 1 ∨ k = 2 ∨ k = 3 by omega) with rfl | rfl | rfl | rfl
    · rw [Nat.add_zero]; exact h0
    · exact h1
    · exact h2
    · exact h3
  unfold Lib.decodeN
  split
  · rename_i hb
    refine ⟨fun h => ⟨h, rfl⟩, fun h j hj => ?_⟩
    obtain rfl : j = 0 := by omega
    rw [key 0 (by omega)]
    exact h
  · rename_i hb
    split
    · rename_i hc
      split
      · refine ⟨fun h => by simp only at h; omega, fun _ j hj => ?_⟩
        rw [key j (by simp only at hj; omega)]
        repeat' split
        all_goals (simp only at hj; omega)
      · refine ⟨fun h => by simp only at h; omega, fun _ j hj => ?_⟩
        rw [key j (by simp only at hj; omega)]
        repeat' split
        all_goals (simp only at hj; omega)
    · split
      · rename_i hc
        split
        · refine ⟨fun h => by simp only at h; omega, fun _ j hj => ?_⟩
          rw [key j (by simp only at hj; omega)]
          repeat' split
          all_goals (simp only at hj; omega)
        · refine ⟨fun h => by simp only at h; omega, fun _ j hj => ?_⟩
          rw [key j (by simp only at hj; omega)]
          repeat' split
          all_goals (simp only at hj; omega)
      · split
        · rename_i hc
          split
          · refine ⟨fun h => by simp only at h; omega, fun _ j hj => ?_⟩
            rw [key j (by simp only at hj; omega)]
            repeat' split
            all_goals (simp only at hj; omega)
          · refine ⟨fun h => by simp only at h; omega, fun _ j hj => ?_⟩
            rw [key j (by simp only at hj; omega)]
            repeat' split
            all_goals (simp only at hj; omega)
        · refine ⟨fun h => by simp only at h; omega, fun _ j hj => ?_⟩
          rw [key j (by simp only at hj; omega)]
          repeat' split
          all_goals (simp only at hj; omega)
theorem get_toList (s : ByteArray) (i : Nat) (hi : i < s.size) : s.data.toList[i]? = some (s.get! i) := by
  cases s with
  | mk d =>
    have hi' : i < d.size := hi
    show d.toList[i]? = some (ByteArray.get! ⟨d⟩ i)
    rw [Array.getElem?_toList, Array.getElem?_eq_getElem hi']
    show some d[i] = some (d.get!Internal i)
    simp [Array.get!Internal, Array.getD, hi']
theorem drop_take_cons (s : ByteArray) (pos w : Nat) (h : ∀ j, j < w → s.get! (pos + j) ≠ 32) (hw : pos + w ≤ s.size) : ∀ b ∈ (s.data.toList.drop pos).take w, b ≠ 32 := by
  intro b hb
  obtain ⟨j, hj, e⟩ := List.mem_iff_getElem.1 hb
  rw [List.length_take, List.length_drop] at hj
  rw [List.getElem_take, List.getElem_drop] at e
  have := get_toList s (pos + j) (by omega)
  rw [List.getElem?_eq_getElem (by rw [← Lib.size_eq]; omega)] at this
  rw [← e]
  simp only [Option.some.injEq] at this
  rw [this]
  exact h j (by omega)
theorem spans_fld (s : ByteArray) : ∀ (f pos : Nat) (st : Option Nat) (acc : List (Nat × Nat)), s.size ≤ pos + f → pos ≤ s.size → (∀ a, st = some a → a < pos) →
    acc.map (fun p => Lib.pieceU s.data.toList p.1 p.2) ++ fld (Lib.openPiece s.data.toList st pos) (s.data.toList.drop pos) = (Lib.closeSpans s (Lib.spansFromP (fun x => decide (x = 32)) s f pos st acc)).map (fun p => Lib.pieceU s.data.toList p.1 p.2)
  | 0, pos, st, acc, h, hp, hst => by
    obtain rfl : pos = s.size := by omega
    have hd : s.data.toList.drop s.size = [] := List.drop_eq_nil_of_le (by rw [← Lib.size_eq]; exact Nat.le_refl _)
    rw [hd, fld]
    cases st with
    | none => simp [Lib.spansFromP, Lib.closeSpans, Lib.openPiece]
    | some a =>
      have := Lib.pieceU_ne s.data.toList a s.size (hst a rfl) (by rw [← Lib.size_eq]; exact Nat.le_refl _)
      simp [Lib.spansFromP, Lib.closeSpans, Lib.openPiece, this]
  | f + 1, pos, st, acc, h, hp, hst => by
    by_cases hlt : pos < s.size
    · have hw := Lib.width_pos s pos
      have hwn : pos + (Utf8.decode s pos).2 ≤ s.size := by
        have := Lib.decodeN_le_n' (s.size - pos) (s.get! pos).toNat (s.get! (pos + 1)).toNat (s.get! (pos + 2)).toNat (s.get! (pos + 3)).toNat (by omega)
        rw [← Lib.decode_at] at this
        omega
      obtain ⟨hD1, hD2⟩ := decode_blank s pos
      have hcons : s.data.toList.drop pos = s.get! pos :: s.data.toList.drop (pos + 1) := by
        have h1 := get_toList s pos hlt
        have hl : pos < s.data.toList.length := by rw [← Lib.size_eq]; exact hlt
        rw [List.drop_eq_getElem_cons hl]
        rw [List.getElem?_eq_getElem hl] at h1
        simp only [Option.some.injEq] at h1
        rw [h1]
      by_cases hsp : (Utf8.decode s pos).1 = 32
      · obtain ⟨hb, hw1⟩ := hD1 hsp
        simp only [Lib.spansFromP, if_pos hlt, decide_eq_true hsp, if_true]
        rw [hcons, fld, if_pos hb, hw1]
        cases st with
        | none =>
          have ih := spans_fld s f (pos + 1) none acc (by omega) (by omega) (fun a h => by cases h)
          simpa [Lib.openPiece] using ih
        | some a =>
          have hpn := Lib.pieceU_ne s.data.toList a pos (hst a rfl) (by rw [← Lib.size_eq]; omega)
          have ih := spans_fld s f (pos + 1) none (acc ++ [(a, pos)]) (by omega) (by omega) (fun a h => by cases h)
          simpa [Lib.openPiece, hpn] using ih
      · have hno := drop_take_cons s pos _ (hD2 hsp) hwn
        have hsplit : s.data.toList.drop pos = (s.data.toList.drop pos).take (Utf8.decode s pos).2 ++ s.data.toList.drop (pos + (Utf8.decode s pos).2) := by
          rw [← List.drop_drop, List.take_append_drop]
        simp only [Lib.spansFromP, if_pos hlt, decide_eq_false hsp, Bool.false_eq_true, if_false]
        rw [hsplit, fld_skip _ _ _ hno]
        cases st with
        | none =>
          have ih := spans_fld s f (pos + (Utf8.decode s pos).2) (some pos) acc (by omega) hwn (fun a h => by cases h; omega)
          have e : ([] : List UInt8) ++ (s.data.toList.drop pos).take (Utf8.decode s pos).2 = Lib.pieceU s.data.toList pos (pos + (Utf8.decode s pos).2) := by
            unfold Lib.pieceU
            rw [List.nil_append, Nat.add_sub_cancel_left]
          simp only [Lib.openPiece] at ih ⊢
          rw [e]
          exact ih
        | some a =>
          have ih := spans_fld s f (pos + (Utf8.decode s pos).2) (some a) acc (by omega) hwn (fun b h => by cases h; have := hst a rfl; omega)
          simp only [Lib.openPiece] at ih ⊢
          rw [Lib.pieceU_grow _ _ _ _ (Nat.le_of_lt (hst a rfl))]
          exact ih
    · obtain rfl : pos = s.size := by omega
      have hd : s.data.toList.drop s.size = [] := List.drop_eq_nil_of_le (by rw [← Lib.size_eq]; exact Nat.le_refl _)
      rw [hd, fld, Lib.spansFromP_end _ s _ _ _ _ hlt]
      cases st with
      | none => simp [Lib.closeSpans, Lib.openPiece]
      | some a =>
        have := Lib.pieceU_ne s.data.toList a s.size (hst a rfl) (by rw [← Lib.size_eq]; exact Nat.le_refl _)
        simp [Lib.closeSpans, Lib.openPiece, this]
theorem fields_fld (s : ByteArray) : (Lib.goFieldsP (fun x => decide (x = 32)) s).map (·.data.toList) = fld [] s.data.toList := by
  have h := spans_fld s s.size 0 none [] (by omega) (by omega) (fun a h => by cases h)
  simp only [List.map_nil, List.nil_append, Lib.openPiece, List.drop_zero] at h
  rw [h]
  unfold Lib.goFieldsP Lib.spansOfP
  rw [List.map_map]
  refine List.map_congr_left fun p _ => ?_
  simp [Lib.pieceU, ByteArray.data_extract, Array.toList_extract]
theorem fld_len : ∀ (l cur : List UInt8), (fld cur l).length ≤ l.length + (if cur = [] then 0 else 1)
  | [], cur => by unfold fld; split <;> simp
  | b :: t, cur => by
    unfold fld
    split
    · split
      · have := fld_len t []; simp at this ⊢; omega
      · have := fld_len t []; simp at this ⊢; omega
    · have := fld_len t (cur ++ [b]); simp at this ⊢; omega
/-- The pieces, put together again. -/
def joinF (cur l : List UInt8) : List UInt8 := [32].intercalate (fld cur l)
/-- What is put behind a piece that has begun. -/
def tailF : List UInt8 → List UInt8
  | [] => []
  | b :: t => if b = 32 then (if fld [] t = [] then [] else 32 :: joinF [] t) else b :: tailF t
theorem inter_cons (x : List UInt8) (xs : List (List UInt8)) : [32].intercalate (x :: xs) = x ++ (if xs = [] then [] else 32 :: [32].intercalate xs) := by
  cases xs with
  | nil => simp [List.intercalate]
  | cons y ys => simp [List.intercalate, List.intersperse]
theorem joinF_cur : ∀ (l cur : List UInt8), cur ≠ [] → joinF cur l = cur ++ tailF l
  | [], cur, h => by simp [joinF, fld, h, tailF, List.intercalate]
  | b :: t, cur, h => by
    unfold joinF tailF
    rw [fld]
    by_cases hb : b = 32
    · rw [if_pos hb, if_neg h, if_pos hb, inter_cons]
      rfl
    · rw [if_neg hb, if_neg hb]
      have := joinF_cur t (cur ++ [b]) (by simp)
      unfold joinF at this
      rw [this]; simp
theorem joinF_nil : joinF [] [] = [] := by simp [joinF, fld, List.intercalate]
theorem joinF_blank (t : List UInt8) : joinF [] (32 :: t) = joinF [] t := by simp [joinF, fld]
theorem joinF_cons (b : UInt8) (t : List UInt8) (h : b ≠ 32) : joinF [] (b :: t) = b :: tailF t := by
  have := joinF_cur t [b] (by simp)
  unfold joinF at this ⊢
  rw [fld, if_neg h]
  simpa using this
mutual
theorem joinF_le : ∀ l, (joinF [] l).length ≤ l.length
  | [] => by rw [joinF_nil]; exact Nat.le_refl _
  | b :: t => by
    by_cases hb : b = 32
    · rw [hb, joinF_blank]
      have := joinF_le t
      simp; omega
    · rw [joinF_cons b t hb]
      have := tailF_le t
      simp; omega
theorem tailF_le : ∀ l, (tailF l).length ≤ l.length
  | [] => by simp [tailF]
  | b :: t => by
    unfold tailF
    split
    · split
      · simp
      · have := joinF_le t
        simp; omega
    · have := tailF_le t
      simp; omega
end
def no2 (l : List UInt8) : Bool := !Lib.contains l [32, 32]
theorem contains_cons (b : UInt8) (t : List UInt8) : Lib.contains (b :: t) [32, 32] = (([32, 32] : List UInt8).isPrefixOf (b :: t) || Lib.contains t [32, 32]) := by
  unfold Lib.contains
  rw [Lib.index]
  cases h : ([32, 32] : List UInt8).isPrefixOf (b :: t)
  · rw [if_neg (by simp), Bool.false_or]
    have := Lib.index_ge t [32, 32]
    split
    · rename_i he
      rw [beq_iff_eq] at he
      rw [he]
    · rename_i he
      have hne : Lib.index t [32, 32] ≠ -1 := fun e => he (by rw [e]; rfl)
      rw [decide_eq_true (show (0 : Int) ≤ Lib.index t [32, 32] + 1 by omega), decide_eq_true (show (0 : Int) ≤ Lib.index t [32, 32] by omega)]
  · rw [if_pos rfl]; rfl
theorem suffix_cons (b : UInt8) (t : List UInt8) (h : t ≠ []) : Lib.hasSuffix (b :: t) [32] = Lib.hasSuffix t [32] := by
  unfold Lib.hasSuffix
  cases t with
  | nil => exact absurd rfl h
  | cons c t =>
    simp only [List.isSuffixOf, List.reverse_cons, List.append_assoc, List.reverse_nil, List.nil_append]
    cases hr : (t.reverse) with
    | nil => simp [List.isPrefixOf]
    | cons d r => simp [List.isPrefixOf]
mutual
theorem joinF_eq : ∀ l : List UInt8, (joinF [] l = l) ↔ (Lib.hasPrefix l [32] = false ∧ Lib.hasSuffix l [32] = false ∧ Lib.contains l [32, 32] = false)
  | [] => by
    rw [joinF_nil]
    simp [Lib.hasPrefix, Lib.hasSuffix, List.isSuffixOf, Lib.contains, Lib.index]
  | b :: t => by
    by_cases hb : b = 32
    · subst hb
      rw [joinF_blank]
      have := joinF_le t
      constructor
      · intro h
        have := congrArg List.length h
        simp at this; omega
      · rintro ⟨h, _⟩
        simp [Lib.hasPrefix] at h
    · rw [joinF_cons b t hb]
      have hp : Lib.hasPrefix (b :: t) [32] = false := by
        simp [Lib.hasPrefix, List.isPrefixOf]
        exact fun e => hb e.symm
      have h2 : ([32, 32] : List UInt8).isPrefixOf (b :: t) = false := by
        simp only [List.isPrefixOf]
        have : ((32 : UInt8) == b) = false := by simpa using fun e => hb (Eq.symm e)
        rw [this]; rfl
      rw [hp, contains_cons, h2, Bool.false_or]
      simp only [List.cons.injEq, true_and]
      rw [tailF_eq]
      by_cases ht : t = []
      · subst ht
        have : Lib.hasSuffix [b] [32] = false := by
          simp [Lib.hasSuffix, List.isSuffixOf, List.isPrefixOf]
          exact fun e => hb e.symm
        rw [this]
        simp [Lib.hasSuffix, List.isSuffixOf]
      · rw [suffix_cons b t ht]
theorem tailF_eq : ∀ l : List UInt8, (tailF l = l) ↔ (Lib.hasSuffix l [32] = false ∧ Lib.contains l [32, 32] = false)
  | [] => by simp [tailF, Lib.hasSuffix, List.isSuffixOf, Lib.contains, Lib.index]
  | b :: t => by
    rw [contains_cons]
    unfold tailF
    by_cases hb : b = 32
    · subst hb
      rw [if_pos rfl]
      by_cases ht : t = []
      · subst ht
        simp [fld, Lib.hasSuffix, List.isSuffixOf]
      · rw [suffix_cons _ t ht]
        have hpre : ([32, 32] : List UInt8).isPrefixOf (32 :: t) = Lib.hasPrefix t [32] := by
          cases t with
          | nil => rfl
          | cons c t => simp [Lib.hasPrefix, List.isPrefixOf]
        rw [hpre]
        by_cases hf : fld [] t = []
        · rw [if_pos hf]
          have hj : joinF [] t = [] := by unfold joinF; rw [hf]; rfl
          have := joinF_eq t
          rw [hj] at this
          constructor
          · intro h; cases h
          · rintro ⟨h1, h2⟩
            rw [Bool.or_eq_false_iff] at h2
            exact absurd (this.2 ⟨h2.1, h1, h2.2⟩).symm ht
        · rw [if_neg hf]
          simp only [List.cons.injEq, true_and]
          rw [joinF_eq t, Bool.or_eq_false_iff]
          constructor
          · rintro ⟨a, b, c⟩; exact ⟨b, a, c⟩
          · rintro ⟨b, a, c⟩; exact ⟨a, b, c⟩
    · rw [if_neg hb]
      have h2 : ([32, 32] : List UInt8).isPrefixOf (b :: t) = false := by
        simp only [List.isPrefixOf]
        have : ((32 : UInt8) == b) = false := by simpa using fun e => hb (Eq.symm e)
        rw [this]; rfl
      rw [h2, Bool.false_or]
      simp only [List.cons.injEq, true_and]
      rw [tailF_eq]
      by_cases ht : t = []
      · subst ht
        have : Lib.hasSuffix [b] [32] = false := by
          simp [Lib.hasSuffix, List.isSuffixOf, List.isPrefixOf]
          exact fun e => hb e.symm
        rw [this]
        simp [Lib.hasSuffix, List.isSuffixOf]
      · rw [suffix_cons b t ht]
end
theorem rejoin_eq (s : ByteArray) : rejoin s = joinF [] s.data.toList := by
  unfold rejoin joinF Lib.join
  rw [fields_fld]
theorem plain_eq (s : ByteArray) : plainQ s = plainP s := by
  unfold plainQ plainP
  have h : (s.toList == rejoin s) = (!Lib.hasPrefix s.data.toList [32] && !Lib.hasSuffix s.data.toList [32] && !Lib.contains s.data.toList [32, 32]) := by
    rw [rejoin_eq, ByteArray.toList_eq, Bool.eq_iff_iff, beq_iff_eq, eq_comm, joinF_eq]
    simp [and_assoc]
  rw [h]
  cases Lib.validD s.data.toList <;> cases okBytes s <;> simp
theorem name_ok (s : ByteArray) (h : s.size ≤ 1000000) : NameOk s := by
  have hl : s.data.toList.length = s.size := (Lib.size_eq s).symm
  refine ⟨plain_eq s, ?_, ?_⟩
  · have h1 := congrArg List.length (fields_fld s)
    rw [List.length_map] at h1
    have := fld_len s.data.toList []
    simp at this
    omega
  · rw [rejoin_eq]
    have := joinF_le s.data.toList
    omega
end Go.Proofs.YtmjkbmkjnbpgeaaGreatDoor
