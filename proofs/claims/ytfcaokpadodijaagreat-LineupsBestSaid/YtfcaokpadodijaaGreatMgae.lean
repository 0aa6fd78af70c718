/- Sets of slots that can be taken (the reference), and the slots that stay empty (the program): they come to the same. Plain facts. -/
import Derived.Lib.Small
/- Who can be placed at once: one more is placed just if that can be (a search that moves those who are placed); whoever is worth most first is best. Plain facts. -/
namespace Go.Proofs.YtfcaokpadodijaaGreat.Mat

/-- Can those of a list be placed at once, each at a place of its own below P? -/
def Fit (fits : Nat → Nat → Bool) (P : Nat) (A : List Nat) : Prop := ∃ f : Nat → Nat, (∀ a ∈ A, f a < P ∧ fits a (f a) = true) ∧ ∀ a ∈ A, ∀ b ∈ A, f a = f b → a = b
theorem Fit.sub {fits : Nat → Nat → Bool} {P : Nat} {A B : List Nat} (h : Fit fits P A) (hs : ∀ b ∈ B, b ∈ A) : Fit fits P B := by
 obtain ⟨f, h1, h2⟩ := h
 exact ⟨f, fun a ha => h1 a (hs a ha), fun a ha b hb => h2 a (hs a ha) b (hs b hb)⟩
theorem Fit.nil (fits : Nat → Nat → Bool) (P : Nat) : Fit fits P [] := ⟨fun _ => 0, by simp, by simp⟩
/-- A list without repetition whose members are all in another one is no longer. -/
theorem pigeon : ∀ (X Y : List Nat), X.Nodup → (∀ x ∈ X, x ∈ Y) → X.length ≤ Y.length
 | [], _, _, _ => Nat.zero_le _
 | x :: X, Y, hn, hs => by
  rw [List.nodup_cons] at hn
  have hx := hs x (by simp)
  have h := pigeon X (Y.erase x) hn.2 fun z hz => by
   have : z ≠ x := fun e => hn.1 (e ▸ hz)
   exact (List.mem_erase_of_ne this).2 (hs z (by simp [hz]))
  have := List.length_erase_of_mem hx
  have := List.length_pos_of_mem hx
  simp only [List.length_cons]; omega
theorem nodup_map {f : Nat → Nat} : ∀ (X : List Nat), X.Nodup → (∀ a ∈ X, ∀ b ∈ X, f a = f b → a = b) → (X.map f).Nodup
 | [], _, _ => List.nodup_nil
 | x :: X, hn, hi => by
  rw [List.nodup_cons] at hn
  rw [List.map_cons, List.nodup_cons]; refine ⟨fun hm => ?_, nodup_map X hn.2 fun a ha b hb => hi a (by simp [ha]) b (by simp [hb])⟩
  obtain ⟨y, hy, e⟩ := List.mem_map.1 hm; exact hn.1 (hi y (by simp [hy]) x (by simp) e ▸ hy)
theorem filter_less {p q : Nat → Bool} {b : Nat} : ∀ (A : List Nat), (∀ z ∈ A, q z = true → p z = true) → b ∈ A → p b = true → q b = false → (A.filter q).length < (A.filter p).length
 | [], _, hb, _, _ => by cases hb
 | a :: A, hs, hb, hp, hq => by
  have mono : ∀ (A : List Nat), (∀ z ∈ A, q z = true → p z = true) → (A.filter q).length ≤ (A.filter p).length := by
   intro A; induction A with
   | nil => intro _; exact Nat.le_refl _
   | cons a A ih =>
    intro h; have := ih fun z hz => h z (by simp [hz])
    have h1 := h a (by simp)
    simp only [List.filter_cons]; cases hqa : q a with
    | true => rw [h1 hqa]; simp; omega
    | false => cases p a <;> simp <;> omega
  have hA := mono A fun z hz => hs z (by simp [hz])
  have h1 := hs a (by simp)
  simp only [List.filter_cons]; by_cases hab : b = a
  ·subst hab
   rw [hp, hq]; simp; omega
  ·have := filter_less A (fun z hz => hs z (by simp [hz])) (by rcases List.mem_cons.1 hb with h | h; exact absurd h hab; exact h) hp hq
   cases hqa : q a with
   | true => rw [h1 hqa]; simp; omega
   | false => cases p a <;> simp <;> omega
/-- If more can be placed than A, then one of them can be placed besides A. -/
theorem Fit.exchange {fits : Nat → Nat → Bool} {P : Nat} {A B : List Nat} (hB : B.Nodup) (h : Fit fits P A) (k : Fit fits P B) (hl : A.length < B.length) : ∃ b ∈ B, b ∉ A ∧ Fit fits P (b :: A) := by
 obtain ⟨g, g1, g2⟩ := k
 obtain ⟨f, f1, f2⟩ := h
 have step : ∀ (n : Nat) (f : Nat → Nat), (A.filter fun a => !(decide (a ∈ B) && (f a == g a))).length ≤ n → (∀ a ∈ A, f a < P ∧ fits a (f a) = true) → (∀ a ∈ A, ∀ b ∈ A, f a = f b → a = b) →
   (∀ f' : Nat → Nat, (A.filter fun a => !(decide (a ∈ B) && (f' a == g a))).length < n → (∀ a ∈ A, f' a < P ∧ fits a (f' a) = true) → (∀ a ∈ A, ∀ b ∈ A, f' a = f' b → a = b) → ∃ b ∈ B, b ∉ A ∧ Fit fits P (b :: A)) →
   ∃ b ∈ B, b ∉ A ∧ Fit fits P (b :: A) := by
  intro n f hm f1 f2 next
  have hex : ∃ b ∈ B, g b ∉ A.map f := by
   refine Classical.byContradiction fun hno => ?_
   have h1 := pigeon (B.map g) (A.map f) (nodup_map B hB g2) fun x hx => by
    obtain ⟨b, hb, rfl⟩ := List.mem_map.1 hx; exact Classical.byContradiction fun hn => hno ⟨b, hb, hn⟩
   rw [List.length_map, List.length_map] at h1
   omega
  obtain ⟨b, hb, hfree⟩ := hex; have hne : ∀ a ∈ A, f a ≠ g b := fun a ha e => hfree (e ▸ List.mem_map_of_mem ha)
  have f1' : ∀ a, a ∈ A ∨ a = b → (if a = b then g b else f a) < P ∧ fits a (if a = b then g b else f a) = true := fun a ha => by
   by_cases hab : a = b
   ·rw [if_pos hab, hab]; exact g1 b hb
   ·rw [if_neg hab]; exact f1 a (ha.resolve_right hab)
  have f2' : ∀ a c, a ∈ A ∨ a = b → c ∈ A ∨ c = b → (if a = b then g b else f a) = (if c = b then g b else f c) → a = c := fun a c ha hc e => by
   by_cases hab : a = b
   ·by_cases hcb : c = b
    ·rw [hab, hcb]
    ·rw [if_pos hab, if_neg hcb] at e
     exact absurd e.symm (hne c (hc.resolve_right hcb))
   ·by_cases hcb : c = b
    ·rw [if_neg hab, if_pos hcb] at e
     exact absurd e (hne a (ha.resolve_right hab))
    ·rw [if_neg hab, if_neg hcb] at e
     exact f2 a (ha.resolve_right hab) c (hc.resolve_right hcb) e
  by_cases hbA : b ∈ A
  ·refine next (fun a => if a = b then g b else f a) ?_ (fun a ha => f1' a (.inl ha)) fun a ha c hc => f2' a c (.inl ha) (.inl hc)
   refine Nat.lt_of_lt_of_le (filter_less (b := b) A (fun z _ hz => ?_) hbA ?_ ?_) hm
   ·by_cases hzb : z = b
    ·subst hzb
     simp [hb] at hz
    ·simpa [hzb] using hz
   ·simp [hb, hne b hbA]
   ·simp [hb]
  ·exact ⟨b, hb, hbA, fun a => if a = b then g b else f a, fun a ha => f1' a (by rcases List.mem_cons.1 ha with h | h; exact .inr h; exact .inl h), fun a ha c hc => f2' a c (by rcases List.mem_cons.1 ha with h | h; exact .inr h; exact .inl h) (by rcases List.mem_cons.1 hc with h | h; exact .inr h; exact .inl h)⟩
 have key : ∀ (n : Nat) (f : Nat → Nat), (A.filter fun a => !(decide (a ∈ B) && (f a == g a))).length ≤ n → (∀ a ∈ A, f a < P ∧ fits a (f a) = true) → (∀ a ∈ A, ∀ b ∈ A, f a = f b → a = b) → ∃ b ∈ B, b ∉ A ∧ Fit fits P (b :: A) := by
  intro n; induction n with
  | zero =>
   intro f hm f1 f2; exact step _ f hm f1 f2 fun f' hlt => by omega
  | succ n ih =>
   intro f hm f1 f2; exact step _ f hm f1 f2 fun f' hlt => ih f' (by omega)
 exact key _ f (Nat.le_refl _) f1 f2
/-- What those of a list are worth together. -/
def sumW (w : Nat → Int) : List Nat → Int
 | [] => 0
 | x :: xs => w x + sumW w xs
theorem sumW_erase {w : Nat → Int} {x : Nat} : ∀ {B : List Nat}, x ∈ B → sumW w B = w x + sumW w (B.erase x)
 | [], h => by cases h
 | b :: B, h => by
  by_cases hb : b = x
  ·subst hb; rw [List.erase_cons_head]; rfl
  ·have h' : x ∈ B := by rcases List.mem_cons.1 h with e | e; exact absurd e.symm hb; exact e
   rw [List.erase_cons_tail (by simpa using hb)]
   show w b + sumW w B = w x + (w b + sumW w (B.erase x))
   rw [sumW_erase h']; omega
/-- The next one is placed if that is possible besides those before. -/
def grd (can : List Nat → Bool) : List Nat → List Nat → List Nat
 | G, [] => G
 | G, x :: xs => grd can (if can (x :: G) then x :: G else G) xs
/-- What is so of those who are placed, of those looked at. -/
structure GInv (fits : Nat → Nat → Bool) (P : Nat) (w : Nat → Int) (pre G : List Nat) : Prop where
 nodup : G.Nodup
 sub : ∀ x ∈ G, x ∈ pre
 fit : Fit fits P G
 max : ∀ x ∈ pre, x ∉ G → ¬ Fit fits P (x :: G)
 opt : ∀ B : List Nat, B.Nodup → (∀ b ∈ B, b ∈ pre) → Fit fits P B → ∀ c : Int, 0 ≤ c → (∀ x ∈ pre, c ≤ w x) → sumW w B + ((G.length : Int) - (B.length : Int)) * c ≤ sumW w G
theorem most {fits : Nat → Nat → Bool} {P : Nat} {pre G B : List Nat} (hmax : ∀ x ∈ pre, x ∉ G → ¬ Fit fits P (x :: G)) (hG : Fit fits P G) (hn : B.Nodup) (hs : ∀ b ∈ B, b ∈ pre) (hf : Fit fits P B) : B.length ≤ G.length := by
 refine Nat.le_of_not_lt fun hlt => ?_
 obtain ⟨b, hb, hbG, h⟩ := Fit.exchange hn hG hf hlt
 exact hmax b (hs b hb) hbG h
theorem GInv.step {fits : Nat → Nat → Bool} {P : Nat} {w : Nat → Int} {pre G : List Nat} {x : Nat} (h : GInv fits P w pre G) (hx : x ∉ pre) (hw : ∀ y ∈ pre, w x ≤ w y) (hw0 : 0 ≤ w x) {can : List Nat → Bool} (hcan : can (x :: G) = true ↔ Fit fits P (x :: G)) :
  GInv fits P w (pre ++ [x]) (if can (x :: G) then x :: G else G) := by
 have hxG : x ∉ G := fun e => hx (h.sub x e)
 have split : ∀ B : List Nat, B.Nodup → (∀ b ∈ B, b ∈ pre ++ [x]) → Fit fits P B → ((B.erase x).Nodup ∧ (∀ b ∈ B.erase x, b ∈ pre) ∧ Fit fits P (B.erase x)) := by
  intro B hn hs hf; refine ⟨hn.sublist List.erase_sublist, fun b hb => ?_, hf.sub fun b hb => List.mem_of_mem_erase hb⟩
  have hbx : b ≠ x := fun e => by rw [e, List.Nodup.mem_erase_iff hn] at hb; exact hb.1 rfl
  have := hs b (List.mem_of_mem_erase hb)
  simp at this
  exact this.resolve_right hbx
 cases hc : can (x :: G) with
 | true =>
  have hfit := hcan.1 hc; rw [if_pos rfl]; refine ⟨List.nodup_cons.2 ⟨hxG, h.nodup⟩, fun y hy => ?_, hfit, fun y hy hyG hf => ?_, fun B hn hs hf c hc0 hcw => ?_⟩
  ·rcases List.mem_cons.1 hy with e | e
   ·simp [e]
   ·simp [h.sub y e]
  ·rw [List.mem_append] at hy
   rcases hy with e | e
   ·refine h.max y e (fun k => hyG (by simp [k])) (hf.sub fun z hz => ?_)
    rcases List.mem_cons.1 hz with e | e
    ·simp [e]
    ·simp [e]
   ·simp at e; exact hyG (by simp [e])
  ·obtain ⟨n1, n2, n3⟩ := split B hn hs hf
   have hlen := most h.max h.fit n1 n2 n3; have hcx : c ≤ w x := hcw x (by simp)
   have hO := h.opt _ n1 n2 n3 (w x) hw0 hw; have hmul := Int.mul_le_mul_of_nonneg_left hcx (show 0 ≤ (G.length : Int) - ((B.erase x).length : Int) by omega)
   show _ ≤ w x + sumW w G
   by_cases hxB : x ∈ B
   ·have e1 := sumW_erase (w := w) hxB
    have e2 := List.length_erase_of_mem hxB; have e3 := List.length_pos_of_mem hxB; have e4 : ((x :: G).length : Int) - (B.length : Int) = (G.length : Int) - ((B.erase x).length : Int) := by simp only [List.length_cons]; omega
    rw [e4, e1]; omega
   ·have e1 : B.erase x = B := List.erase_of_not_mem hxB
    rw [e1] at hO hmul hlen
    have e4 : ((x :: G).length : Int) - (B.length : Int) = (G.length : Int) - (B.length : Int) + 1 := by simp only [List.length_cons]; omega
    rw [e4, Int.add_mul, Int.one_mul]; omega
 | false =>
  have hno : ¬ Fit fits P (x :: G) := fun k => by rw [hcan.2 k] at hc; cases hc
  rw [if_neg (by simp)]
  have hmax : ∀ y ∈ pre ++ [x], y ∉ G → ¬ Fit fits P (y :: G) := fun y hy hyG => by
   rw [List.mem_append] at hy
   rcases hy with e | e
   ·exact h.max y e hyG
   ·simp at e; rw [e]; exact hno
  refine ⟨h.nodup, fun y hy => by simp [h.sub y hy], h.fit, hmax, fun B hn hs hf c hc0 hcw => ?_⟩
  have hlenB := most hmax h.fit hn hs hf; obtain ⟨n1, n2, n3⟩ := split B hn hs hf; have hlen := most h.max h.fit n1 n2 n3; have hcx : c ≤ w x := hcw x (by simp)
  have hO := h.opt _ n1 n2 n3 (w x) hw0 hw; by_cases hxB : x ∈ B
  ·have e1 := sumW_erase (w := w) hxB
   have e2 := List.length_erase_of_mem hxB; have e3 := List.length_pos_of_mem hxB; have hmul := Int.mul_le_mul_of_nonneg_left hcx (show 0 ≤ (G.length : Int) - (B.length : Int) by omega)
   have e4 : (G.length : Int) - ((B.erase x).length : Int) = (G.length : Int) - (B.length : Int) + 1 := by omega
   rw [e4, Int.add_mul, Int.one_mul] at hO
   rw [e1]; omega
  ·have e1 : B.erase x = B := List.erase_of_not_mem hxB
   rw [e1] at hO
   have hmul := Int.mul_le_mul_of_nonneg_left hcx (show 0 ≤ (G.length : Int) - (B.length : Int) by omega)
   omega
theorem grd_inv {fits : Nat → Nat → Bool} {P : Nat} {w : Nat → Int} {can : List Nat → Bool} (hcan : ∀ A, can A = true ↔ Fit fits P A) : ∀ (rest pre G : List Nat), GInv fits P w pre G → (pre ++ rest).Nodup → (∀ x ∈ rest, 0 ≤ w x) → (pre ++ rest).Pairwise (fun a b => w b ≤ w a) → GInv fits P w (pre ++ rest) (grd can G rest)
 | [], pre, G, h, _, _, _ => by simpa [grd] using h
 | x :: rest, pre, G, h, hn, h0, hp => by
  have hx : x ∉ pre := fun e => by
   rw [List.nodup_append] at hn
   exact hn.2.2 x e x (by simp) rfl
  have hw : ∀ y ∈ pre, w x ≤ w y := fun y hy => by
   rw [List.pairwise_append] at hp
   exact hp.2.2 y hy x (by simp)
  have h1 := h.step hx hw (h0 x (by simp)) (hcan (x :: G))
  have e : pre ++ x :: rest = (pre ++ [x]) ++ rest := by simp
  rw [e] at hn hp ⊢
  exact grd_inv hcan rest (pre ++ [x]) _ h1 hn (fun y hy => h0 y (by simp [hy])) hp
/-- THE GREEDY WAY IS BEST: whoever is placed otherwise is worth no more. -/
theorem grd_best {fits : Nat → Nat → Bool} {P : Nat} {w : Nat → Int} {can : List Nat → Bool} (hcan : ∀ A, can A = true ↔ Fit fits P A) {who : List Nat} (hn : who.Nodup) (h0 : ∀ x ∈ who, 0 ≤ w x) (hp : who.Pairwise (fun a b => w b ≤ w a)) :
  (grd can [] who).Nodup ∧ (∀ x ∈ grd can [] who, x ∈ who) ∧ Fit fits P (grd can [] who) ∧ (∀ x ∈ who, x ∉ grd can [] who → ¬ Fit fits P (x :: grd can [] who)) ∧
   ∀ B : List Nat, B.Nodup → (∀ b ∈ B, b ∈ who) → Fit fits P B → sumW w B ≤ sumW w (grd can [] who) := by
 have h := grd_inv (w := w) hcan who [] [] ⟨List.nodup_nil, by simp, Fit.nil _ _, by simp, fun B hn hs _ c _ _ => by
  have e : B = [] := by
   cases B with
   | nil => rfl
   | cons b B => have := hs b (by simp); simp at this
  subst e; simp⟩ (by simpa using hn) h0 (by simpa using hp)
 simp only [List.nil_append] at h
 refine ⟨h.nodup, h.sub, h.fit, h.max, fun B b1 b2 b3 => ?_⟩
 have := h.opt B b1 b2 b3 0 (by omega) h0
 simpa using this
/-- Who holds which place, and which places were asked for already. -/
structure PSt where
 asked : Nat → Bool
 taken : Nat → Bool
 hold : Nat → Nat
def PSt.ask (s : PSt) (p : Nat) : PSt := { s with asked := fun q => if q = p then true else s.asked q }
def PSt.put (s : PSt) (p who : Nat) : PSt := { s with taken := fun q => if q = p then true else s.taken q, hold := fun q => if q = p then who else s.hold q }
/-- The places of a list, one after the other, for one who wants one. -/
def scan (rec : Nat → PSt → Bool × PSt) (fits : Nat → Nat → Bool) (who : Nat) : List Nat → PSt → Bool × PSt
 | [], s => (false, s)
 | p :: ps, s =>
  if s.asked p || !fits who p then scan rec fits who ps s
  else if !(s.ask p).taken p then (true, (s.ask p).put p who)
  else if (rec ((s.ask p).hold p) (s.ask p)).1 then (true, (rec ((s.ask p).hold p) (s.ask p)).2.put p who)
  else scan rec fits who ps (rec ((s.ask p).hold p) (s.ask p)).2
def settle (fits : Nat → Nat → Bool) (P : Nat) : Nat → Nat → PSt → Bool × PSt
 | 0, _, s => (false, s)
 | f + 1, who, s => scan (settle fits P f) fits who (List.range P) s
/-- How many places were not asked for yet. -/
def unasked (P : Nat) (s : PSt) : Nat := ((List.range P).filter fun p => !s.asked p).length
/-- How many places one holds. -/
def cntL (s : PSt) (x : Nat) : List Nat → Nat
 | [] => 0
 | p :: ps => (if s.taken p && s.hold p == x then 1 else 0) + cntL s x ps
def cnt (P : Nat) (s : PSt) (x : Nat) : Nat := cntL s x (List.range P)
theorem cntL_out {s : PSt} {p who x : Nat} : ∀ {ps : List Nat}, p ∉ ps → cntL (s.put p who) x ps = cntL s x ps
 | [], _ => rfl
 | q :: ps, h => by
  have hq : q ≠ p := fun e => h (by simp [e])
  unfold cntL; rw [cntL_out fun k => h (by simp [k])]
  simp [PSt.put, hq]
theorem cntL_put {s : PSt} {p who x : Nat} : ∀ {ps : List Nat}, ps.Nodup → p ∈ ps → cntL (s.put p who) x ps + (if s.taken p && s.hold p == x then 1 else 0) = cntL s x ps + (if x = who then 1 else 0)
 | [], _, h => by cases h
 | q :: ps, hn, h => by
  rw [List.nodup_cons] at hn
  by_cases hq : q = p
  ·subst hq
   unfold cntL; rw [cntL_out hn.1]
   have e : ((s.put q who).taken q && (s.put q who).hold q == x) = decide (x = who) := by
    simp only [PSt.put, if_true, Bool.true_and]; by_cases hw : x = who
    ·subst hw; simp
    ·rw [decide_eq_false hw]; simp; exact fun e => hw e.symm
   rw [e]; by_cases hw : x = who
   ·simp [hw]; omega
   ·simp [hw]; omega
  ·have h' : p ∈ ps := by rcases List.mem_cons.1 h with e | e; exact absurd e.symm hq; exact e
   have := cntL_put (s := s) (who := who) (x := x) hn.2 h'
   unfold cntL; have e : ((s.put p who).taken q && (s.put p who).hold q == x) = (s.taken q && s.hold q == x) := by simp [PSt.put, hq]
   rw [e]; omega
theorem cnt_put {P : Nat} {s : PSt} {p who x : Nat} (hp : p < P) : cnt P (s.put p who) x + (if s.taken p && s.hold p == x then 1 else 0) = cnt P s x + (if x = who then 1 else 0) :=
 cntL_put List.nodup_range (List.mem_range.2 hp)
theorem cnt_ask {P : Nat} {s : PSt} {p x : Nat} : cnt P (s.ask p) x = cnt P s x := by
 unfold cnt
 generalize List.range P = ps
 induction ps with
 | nil => rfl
 | cons q ps ih => unfold cntL; rw [ih]; rfl
structure Bad (fits : Nat → Nat → Bool) (P : Nat) (who : Nat) (ps : List Nat) (s s' : PSt) : Prop where
 taken : s'.taken = s.taken
 hold : s'.hold = s.hold
 mono : ∀ p, s.asked p = true → s'.asked p = true
 all : ∀ p ∈ ps, fits who p = true → s'.asked p = true
 closed : ∀ q, s'.asked q = true → s.asked q = true ∨ (q < P ∧ s.taken q = true ∧ ∀ p, p < P → fits (s.hold q) p = true → s'.asked p = true)
structure Good (fits : Nat → Nat → Bool) (P : Nat) (who : Nat) (s s' : PSt) : Prop where
 cnt : ∀ x, cnt P s' x = cnt P s x + if x = who then 1 else 0
 keep : ∀ p, s.asked p = true → s'.taken p = s.taken p ∧ s'.hold p = s.hold p
 ok : (∀ p, p < P → s.taken p = true → fits (s.hold p) p = true) → ∀ p, p < P → s'.taken p = true → fits (s'.hold p) p = true
def Told (fits : Nat → Nat → Bool) (P : Nat) (who : Nat) (ps : List Nat) (s : PSt) (r : Bool × PSt) : Prop :=
 (r.1 = false → Bad fits P who ps s r.2) ∧ (r.1 = true → Good fits P who s r.2)
theorem unasked_mono {P : Nat} {s s' : PSt} (h : ∀ p, s.asked p = true → s'.asked p = true) : unasked P s' ≤ unasked P s := by
 unfold unasked
 generalize List.range P = ps
 induction ps with
 | nil => exact Nat.le_refl _
 | cons q ps ih =>
  simp only [List.filter_cons]; cases hq : s.asked q with
  | true => rw [h q hq]; simpa using ih
  | false => cases s'.asked q <;> simp <;> omega
theorem unasked_ask {P p : Nat} {s : PSt} (hp : p < P) (h : s.asked p = false) : unasked P (s.ask p) < unasked P s := by
 unfold unasked
 refine filter_less (b := p) _ (fun z _ hz => ?_) (List.mem_range.2 hp) (by simp [h]) (by simp [PSt.ask])
 simp only [PSt.ask] at hz
 by_cases e : z = p
 ·simp [e] at hz
 ·simpa [e] using hz
theorem scan_told {fits : Nat → Nat → Bool} {P who f : Nat} {rec : Nat → PSt → Bool × PSt} (hrec : ∀ who s, unasked P s < f → Told fits P who (List.range P) s (rec who s)) : ∀ (ps : List Nat) (s : PSt), (∀ p ∈ ps, p < P) → unasked P s ≤ f → Told fits P who ps s (scan rec fits who ps s)
 | [], s, _, _ => ⟨fun _ => ⟨rfl, rfl, fun _ h => h, by simp, fun _ h => .inl h⟩, fun h => by cases h⟩
 | p :: ps, s, hps, hu => by
  have hp := hps p (by simp)
  have hps' : ∀ q ∈ ps, q < P := fun q hq => hps q (by simp [hq])
  unfold scan; split
  ·rename_i hskip
   obtain ⟨h1, h2⟩ := scan_told hrec ps s hps' hu; refine ⟨fun e => ?_, h2⟩
   obtain ⟨a, b, c, d, k⟩ := h1 e; refine ⟨a, b, c, fun q hq hf => ?_, k⟩
   rcases List.mem_cons.1 hq with rfl | hq
   ·rw [hf] at hskip; simp at hskip; exact c _ hskip
   ·exact d q hq hf
  ·rename_i hskip
   have hask : s.asked p = false := by cases h : s.asked p with | true => rw [h] at hskip; simp at hskip | false => rfl
   have hfit : fits who p = true := by cases h : fits who p with | true => rfl | false => rw [h] at hskip; simp at hskip
   have hlt := unasked_ask hp hask; have hmono1 : ∀ q, s.asked q = true → (s.ask p).asked q = true := fun q hq => by simp [PSt.ask, hq]
   have hp1 : (s.ask p).asked p = true := by simp [PSt.ask]
   split
   ·rename_i hfree
    have ht : s.taken p = false := by simpa [PSt.ask] using hfree
    refine ⟨fun e => (by cases e), fun _ => ⟨fun x => ?_, fun q hq => ?_, fun hok q hq ht' => ?_⟩⟩
    ·have := cnt_put (P := P) (s := s.ask p) (p := p) (who := who) (x := x) hp
     rw [cnt_ask] at this
     have e0 : ((s.ask p).taken p && (s.ask p).hold p == x) = false := by simp [PSt.ask, ht]
     rw [e0] at this
     simpa using this
    ·have : q ≠ p := fun e => by rw [e, hask] at hq; cases hq
     simp [PSt.put, PSt.ask, this]
    ·by_cases e : q = p
     ·subst e; simpa [PSt.put] using hfit
     ·simp only [PSt.put, PSt.ask, if_neg e] at ht' ⊢
      exact hok q hq ht'
   ·rename_i hfree
    have ht : s.taken p = true := by
     cases h : s.taken p with
     | true => rfl
     | false => exact absurd (by simp [PSt.ask, h]) hfree
    have hR := hrec ((s.ask p).hold p) (s.ask p) (by omega)
    generalize rec ((s.ask p).hold p) (s.ask p) = r at hR
    obtain ⟨r1, s2⟩ := r; split
    ·rename_i hr
     obtain ⟨g1, g2, g3⟩ := hR.2 hr; obtain ⟨k1, k2⟩ := g2 p hp1; refine ⟨fun e => (by cases e), fun _ => ⟨fun x => ?_, fun q hq => ?_, fun hok q hq ht' => ?_⟩⟩
     ·have h1 := cnt_put (P := P) (s := s2) (p := p) (who := who) (x := x) hp
      have h2 := g1 x; rw [cnt_ask] at h2
      have h1' : (s2.taken p && s2.hold p == x) = decide (x = (s.ask p).hold p) := by
       show (s2.taken p && s2.hold p == x) = _
       rw [show s2.taken p = true from k1.trans ht, show s2.hold p = (s.ask p).hold p from k2]
       by_cases e : x = (s.ask p).hold p
       ·simp [e]
       ·rw [decide_eq_false e]; simp; exact fun h => e h.symm
      rw [h1'] at h1
      simp only at h2
      show cnt P (s2.put p who) x = _
      by_cases e : x = (s.ask p).hold p
      ·rw [if_pos e] at h2; simp [e] at h1; rw [e] at h2 ⊢; omega
      ·rw [if_neg e] at h2; simp [e] at h1; omega
     ·have hne : q ≠ p := fun e => by rw [e, hask] at hq; cases hq
      have := g2 q (hmono1 q hq)
      simp only [PSt.put, if_neg hne]; exact this
     ·by_cases e : q = p
      ·subst e; simpa [PSt.put] using hfit
      ·simp only [PSt.put, if_neg e] at ht' ⊢
       exact g3 hok q hq ht'
    ·rename_i hr
     obtain ⟨a, b, c, d, k⟩ := hR.1 (by cases h : r1 with | true => exact absurd h hr | false => rfl)
     have hu2 : unasked P s2 ≤ f := by have : unasked P s2 ≤ unasked P (s.ask p) := unasked_mono c; omega
     obtain ⟨h1, h2⟩ := scan_told hrec ps s2 hps' hu2; have ha : s2.taken = s.taken := a
     have hb : s2.hold = s.hold := b
     refine ⟨fun e => ?_, fun e => ?_⟩
     ·obtain ⟨a', b', c', d', k'⟩ := h1 e
      refine ⟨a'.trans ha, b'.trans hb, fun q hq => c' q (c q (hmono1 q hq)), fun q hq hf => ?_, fun q hq => ?_⟩
      ·rcases List.mem_cons.1 hq with rfl | hq
       ·exact c' _ (c _ hp1)
       ·exact d' q hq hf
      ·rcases k' q hq with h | ⟨h3, h4, h5⟩
       ·rcases k q h with h | ⟨h3, h4, h5⟩
        ·by_cases e : q = p
         ·subst e
          exact .inr ⟨hp, ht, fun z hz hf => c' z (d z (List.mem_range.2 hz) hf)⟩
         ·simp only [PSt.ask, if_neg e] at h
          exact .inl h
        ·exact .inr ⟨h3, h4, fun z hz hf => c' z (h5 z hz hf)⟩
       ·rw [ha] at h4; rw [hb] at h5
        exact .inr ⟨h3, h4, h5⟩
     ·obtain ⟨g1, g2, g3⟩ := h2 e
      refine ⟨fun x => ?_, fun q hq => ?_, fun hok => g3 ?_⟩
      ·rw [g1 x]
       have : cnt P s2 x = cnt P s x := by
        unfold cnt; generalize List.range P = zs
        induction zs with
        | nil => rfl
        | cons z zs ih => unfold cntL; rw [ih, ha, hb]
       rw [this]
      ·have := g2 q (c q (hmono1 q hq))
       rw [ha, hb] at this; exact this
      ·rw [ha, hb]; exact hok
theorem settle_told {fits : Nat → Nat → Bool} {P : Nat} : ∀ (f who : Nat) (s : PSt), unasked P s < f → Told fits P who (List.range P) s (settle fits P f who s)
 | 0, _, _, h => by omega
 | f + 1, who, s, h => by
  unfold settle; exact scan_told (fun who s h => settle_told f who s h) _ s (fun p hp => List.mem_range.1 hp) (by omega)
theorem cntL_pos {s : PSt} {x : Nat} : ∀ {ps : List Nat}, 0 < cntL s x ps → ∃ p ∈ ps, s.taken p = true ∧ s.hold p = x
 | [], h => by cases h
 | p :: ps, h => by
  unfold cntL at h
  cases hc : (s.taken p && s.hold p == x) with
  | true => simp at hc; exact ⟨p, by simp, hc⟩
  | false =>
   rw [hc] at h
   obtain ⟨q, hq, k⟩ := cntL_pos (s := s) (x := x) (ps := ps) (by simpa using h)
   exact ⟨q, by simp [hq], k⟩
theorem cntL_in {s : PSt} {x p : Nat} : ∀ {ps : List Nat}, p ∈ ps → s.taken p = true → s.hold p = x → 0 < cntL s x ps
 | [], h, _, _ => by cases h
 | q :: ps, h, ht, hh => by
  unfold cntL; rcases List.mem_cons.1 h with rfl | h
  ·simp [ht, hh]; omega
  ·have := cntL_in h ht hh; omega
theorem cntL_two {s : PSt} {x p q : Nat} : ∀ {ps : List Nat}, p ∈ ps → q ∈ ps → p ≠ q → s.taken p = true → s.hold p = x → s.taken q = true → s.hold q = x → 2 ≤ cntL s x ps
 | [], h, _, _, _, _, _, _ => by cases h
 | z :: ps, hp, hq, hne, h1, h2, h3, h4 => by
  unfold cntL; rcases List.mem_cons.1 hp with rfl | hp'
  ·have hq' : q ∈ ps := by rcases List.mem_cons.1 hq with e | e; exact absurd e.symm hne; exact e
   have := cntL_in hq' h3 h4
   simp [h1, h2]; omega
  ·rcases List.mem_cons.1 hq with rfl | hq'
   ·have := cntL_in hp' h1 h2
    simp [h3, h4]; omega
   ·have := cntL_two hp' hq' hne h1 h2 h3 h4; omega
/-- Just those of A hold a place, each one, and it fits them. -/
structure Valid (fits : Nat → Nat → Bool) (P : Nat) (s : PSt) (A : List Nat) : Prop where
 nodup : A.Nodup
 one : ∀ x, cnt P s x = if x ∈ A then 1 else 0
 ok : ∀ p, p < P → s.taken p = true → fits (s.hold p) p = true
theorem Valid.fit {fits : Nat → Nat → Bool} {P : Nat} {s : PSt} {A : List Nat} (h : Valid fits P s A) : Fit fits P A := by
 have hex : ∀ a, a ∈ A → ∃ p, p < P ∧ s.taken p = true ∧ s.hold p = a := fun a ha => by
  have h1 := h.one a; rw [if_pos ha] at h1
  obtain ⟨p, hp, k⟩ := cntL_pos (s := s) (x := a) (ps := List.range P) (by unfold cnt at h1; omega)
  exact ⟨p, List.mem_range.1 hp, k⟩
 refine ⟨fun a => if h : a ∈ A then (hex a h).choose else 0, fun a ha => ?_, fun a ha b hb e => ?_⟩
 ·simp only [dif_pos ha]
  obtain ⟨k1, k2, k3⟩ := (hex a ha).choose_spec; exact ⟨k1, by have := h.ok _ k1 k2; rw [k3] at this; exact this⟩
 ·simp only [dif_pos ha, dif_pos hb] at e
  obtain ⟨_, _, k3⟩ := (hex a ha).choose_spec; obtain ⟨_, _, l3⟩ := (hex b hb).choose_spec; rw [← k3, e, l3]
theorem Valid.start {fits : Nat → Nat → Bool} {P : Nat} {s : PSt} (h : ∀ p, p < P → s.taken p = false) : Valid fits P s [] := by
 refine ⟨List.nodup_nil, fun x => ?_, fun p hp ht => by rw [h p hp] at ht; cases ht⟩
 simp only [List.not_mem_nil, if_false]
 refine Nat.eq_zero_of_not_pos fun hpos => ?_
 obtain ⟨p, hp, ht, _⟩ := cntL_pos hpos
 rw [h p (List.mem_range.1 hp)] at ht; cases ht
theorem Valid.holder {fits : Nat → Nat → Bool} {P : Nat} {s : PSt} {A : List Nat} (h : Valid fits P s A) {p : Nat} (hp : p < P) (ht : s.taken p = true) : s.hold p ∈ A := by
 have h1 := h.one (s.hold p)
 have h2 := cntL_in (s := s) (x := s.hold p) (List.mem_range.2 hp) ht rfl
 refine Classical.byContradiction fun k => ?_
 rw [if_neg k] at h1
 unfold cnt at h1; omega
theorem Valid.inj {fits : Nat → Nat → Bool} {P : Nat} {s : PSt} {A : List Nat} (h : Valid fits P s A) {p q : Nat} (hp : p < P) (hq : q < P) (tp : s.taken p = true) (tq : s.taken q = true) (e : s.hold p = s.hold q) : p = q := by
 refine Classical.byContradiction fun k => ?_
 have h2 := cntL_two (s := s) (x := s.hold q) (List.mem_range.2 hp) (List.mem_range.2 hq) k tp e tq rfl
 have h1 := h.one (s.hold q)
 unfold cnt at h1
 split at h1 <;> omega
/-- ONE MORE IS PLACED JUST IF THAT CAN BE. -/
theorem place_iff {fits : Nat → Nat → Bool} {P f who : Nat} {s : PSt} {A : List Nat} (h : Valid fits P s A) (hw : who ∉ A) (ha : ∀ p, s.asked p = false) (hf : P < f) :
  ((settle fits P f who s).1 = true ↔ Fit fits P (who :: A)) ∧ Valid fits P (settle fits P f who s).2 (if (settle fits P f who s).1 then who :: A else A) := by
 have hu : unasked P s < f := by
  have : unasked P s ≤ (List.range P).length := List.length_filter_le _ _
  rw [List.length_range] at this; omega
 have hT := settle_told (fits := fits) (P := P) f who s hu
 generalize settle fits P f who s = r at hT
 obtain ⟨r1, s'⟩ := r
 cases r1 with
 | true =>
  obtain ⟨g1, g2, g3⟩ := hT.2 rfl
  have hV : Valid fits P s' (who :: A) := by
   refine ⟨List.nodup_cons.2 ⟨hw, h.nodup⟩, fun x => ?_, g3 h.ok⟩
   have := g1 x
   rw [h.one x] at this
   rw [this]; by_cases e : x = who
   ·subst e; simp [hw]
   ·simp [e]
  exact ⟨⟨fun _ => hV.fit, fun _ => rfl⟩, by simpa using hV⟩
 | false =>
  obtain ⟨a, b, c, d, k⟩ := hT.1 rfl
  have hV : Valid fits P s' A := ⟨h.nodup, fun x => by
   rw [← h.one x]; unfold cnt; generalize List.range P = zs
   induction zs with
   | nil => rfl
   | cons z zs ih => unfold cntL; rw [ih]; simp only [show s'.taken = s.taken from a, show s'.hold = s.hold from b], fun p hp ht => by
   simp only [show s'.taken = s.taken from a, show s'.hold = s.hold from b] at ht ⊢
   exact h.ok p hp ht⟩
  refine ⟨⟨fun e => (by cases e), fun hF => ?_⟩, by simpa using hV⟩
  exfalso
  obtain ⟨g, g1, g2⟩ := hF
  have hq : ∀ q, s'.asked q = true → q < P ∧ s.taken q = true ∧ ∀ p, p < P → fits (s.hold q) p = true → s'.asked p = true := fun q hq => by
   rcases k q hq with h | h
   ·rw [ha q] at h; cases h
   ·exact h
  -- the places that were asked for, and who is bound to them
  have hQn : ((List.range P).filter fun p => s'.asked p).Nodup := List.nodup_range.sublist List.filter_sublist
  have hQ : ∀ q ∈ (List.range P).filter fun p => s'.asked p, s'.asked q = true := fun q hm => (List.mem_filter.1 hm).2
  have hQ' : ∀ q, s'.asked q = true → q ∈ (List.range P).filter fun p => s'.asked p := fun q hm => List.mem_filter.2 ⟨List.mem_range.2 (hq q hm).1, hm⟩
  generalize (List.range P).filter (fun p => s'.asked p) = Q at hQn hQ hQ'
  have hX : (who :: Q.map s.hold).Nodup := by
   refine List.nodup_cons.2 ⟨fun hm => ?_, nodup_map Q hQn fun x hx y hy e => ?_⟩
   ·obtain ⟨q, hm, e⟩ := List.mem_map.1 hm
    obtain ⟨h1, h2, _⟩ := hq q (hQ q hm); exact hw (e ▸ h.holder h1 h2)
   ·obtain ⟨h1, h2, _⟩ := hq x (hQ x hx)
    obtain ⟨h3, h4, _⟩ := hq y (hQ y hy); exact h.inj h1 h3 h2 h4 e
  have hXA : ∀ x ∈ who :: Q.map s.hold, x ∈ who :: A := fun x hx => by
   rcases List.mem_cons.1 hx with e | e
   ·simp [e]
   ·obtain ⟨q, hm, rfl⟩ := List.mem_map.1 e
    obtain ⟨h1, h2, _⟩ := hq q (hQ q hm); simp [h.holder h1 h2]
  have hXQ : ∀ x ∈ who :: Q.map s.hold, g x ∈ Q := fun x hx => by
   obtain ⟨k1, k2⟩ := g1 x (hXA x hx); rcases List.mem_cons.1 hx with e | e
   ·subst e; exact hQ' _ (d _ (List.mem_range.2 k1) k2)
   ·obtain ⟨q, hm, rfl⟩ := List.mem_map.1 e
    exact hQ' _ ((hq q (hQ q hm)).2.2 _ k1 k2)
  have hp := pigeon ((who :: Q.map s.hold).map g) Q (nodup_map _ hX fun x hx y hy e => g2 x (hXA x hx) y (hXA y hy) e) fun z hz => by
   obtain ⟨x, hx, rfl⟩ := List.mem_map.1 hz; exact hXQ x hx
  simp only [List.length_map, List.length_cons] at hp
  omega
end Go.Proofs.YtfcaokpadodijaaGreat.Mat
/- The best line-up: all ways tried (the reference) and the program's way, slot by slot, come to the same. Plain facts. -/
namespace Go.Proofs.YtfcaokpadodijaaGreat.Mat

theorem grd_snoc (can : List Nat → Bool) : ∀ (xs G : List Nat) (x : Nat), grd can G (xs ++ [x]) = if can (x :: grd can G xs) then x :: grd can G xs else grd can G xs
 | [], _, _ => rfl
 | y :: ys, G, x => by
  show grd can _ (ys ++ [x]) = _
  rw [grd_snoc can ys]; rfl
/-- A way to fill slots: its sum, how many are in it, and who (0: nobody; k + 1: number k). -/
structure LN where
 sum : Int
 many : Nat
 who : List Nat
def lexLt : List Nat → List Nat → Bool
 | _, [] => false
 | [], _ :: _ => true
 | a :: x, b :: y => if a < b then true else if b < a then false else lexLt x y
def better (x y : LN) : Bool := if x.sum ≠ y.sum then decide (y.sum < x.sum) else if x.many ≠ y.many then decide (x.many < y.many) else lexLt x.who y.who
section
variable (n : Nat) (fit : Nat → Nat → Bool) (el : Nat → Bool) (w : Nat → Int)
def okK (i u k : Nat) : Bool := !u.testBit k && fit i k && el k
def candK (r : LN) (k : Nat) : LN := ⟨r.sum + w k, r.many + 1, (k + 1) :: r.who⟩
def pickB (ok : Nat → Bool) (c : Nat → LN) (b : LN) (k : Nat) : LN := if ok k && better (c k) b then c k else b
/-- All ways tried, slot by slot, by who is used. -/
def dp : Nat → Nat → Nat → LN
 | 0, _, _ => ⟨0, 0, []⟩
 | d + 1, i, u => (List.range n).foldl (pickB (okK fit el i u) fun k => candK w (dp d (i + 1) (u ||| (1 <<< k))) k) ⟨(dp d (i + 1) u).sum, (dp d (i + 1) u).many, 0 :: (dp d (i + 1) u).who⟩
/-- Who can still be used. -/
def Free (u k : Nat) : Prop := k < n ∧ el k = true ∧ u.testBit k = false
def fitsAt (i : Nat) : Nat → Nat → Bool := fun who place => fit (i + place) who
end
theorem foldl_max {ok : Nat → Bool} {c : Nat → LN} : ∀ (ks : List Nat) (b : LN), b.sum ≤ (ks.foldl (pickB ok c) b).sum ∧ (∀ k ∈ ks, ok k = true → (c k).sum ≤ (ks.foldl (pickB ok c) b).sum) ∧ (ks.foldl (pickB ok c) b = b ∨ ∃ k ∈ ks, ok k = true ∧ ks.foldl (pickB ok c) b = c k)
 | [], b => ⟨Int.le_refl _, by simp, .inl rfl⟩
 | k :: ks, b => by
  obtain ⟨h1, h2, h3⟩ := foldl_max (ok := ok) (c := c) ks (pickB ok c b k); rw [List.foldl_cons]
  have hb : b.sum ≤ (pickB ok c b k).sum ∧ (ok k = true → (c k).sum ≤ (pickB ok c b k).sum) ∧ (pickB ok c b k = b ∨ (ok k = true ∧ pickB ok c b k = c k)) := by
   unfold pickB; cases hk : ok k with
   | false => simp
   | true =>
    cases hbt : better (c k) b with
    | false =>
     simp only [Bool.true_and, Bool.false_eq_true, if_false]; refine ⟨Int.le_refl _, fun _ => ?_, .inl trivial⟩
     unfold better at hbt
     by_cases e : (c k).sum = b.sum
     ·omega
     ·rw [if_pos e] at hbt; simp at hbt; exact hbt
    | true =>
     simp only [Bool.true_and, if_true]; refine ⟨?_, fun _ => Int.le_refl _, .inr ⟨trivial, trivial⟩⟩
     unfold better at hbt
     by_cases e : (c k).sum = b.sum
     ·omega
     ·rw [if_pos e] at hbt; simp at hbt; omega
  refine ⟨Int.le_trans hb.1 h1, fun j hj hok => ?_, ?_⟩
  ·rcases List.mem_cons.1 hj with rfl | hj
   ·exact Int.le_trans (hb.2.1 hok) h1
   ·exact h2 j hj hok
  ·rcases h3 with e | ⟨j, hj, hok, e⟩
   ·rcases hb.2.2 with e' | ⟨hok, e'⟩
    ·exact .inl (e.trans e')
    ·exact .inr ⟨k, by simp, hok, e.trans e'⟩
   ·exact .inr ⟨j, by simp [hj], hok, e⟩
theorem testBit_add (u k x : Nat) : (u ||| (1 <<< k)).testBit x = (u.testBit x || decide (x = k)) := by
 rw [Nat.testBit_or, Nat.one_shiftLeft, Nat.testBit_two_pow]
 congr 1
 by_cases h : k = x
 ·subst h; simp
 ·simp [h]; exact fun e => h e.symm
theorem free_add {n : Nat} {el : Nat → Bool} {u k x : Nat} : Free n el (u ||| (1 <<< k)) x ↔ Free n el u x ∧ x ≠ k := by
 unfold Free
 rw [testBit_add]
 simp only [Bool.or_eq_false_iff, decide_eq_false_iff_not, ne_eq]
 constructor
 ·rintro ⟨a, b, c, d⟩; exact ⟨⟨a, b, c⟩, d⟩
 ·rintro ⟨⟨a, b, c⟩, d⟩; exact ⟨a, b, c, d⟩
/-- Those who can be in the slots behind one can be in all of them. -/
theorem fit_later {fit : Nat → Nat → Bool} {i d : Nat} {B : List Nat} (h : Fit (fitsAt fit (i + 1)) d B) : Fit (fitsAt fit i) (d + 1) B := by
 obtain ⟨f, f1, f2⟩ := h
 refine ⟨fun a => f a + 1, fun a ha => ?_, fun a ha b hb e => f2 a ha b hb (by simp only at e; omega)⟩
 obtain ⟨k1, k2⟩ := f1 a ha
 refine ⟨by show f a + 1 < d + 1; omega, ?_⟩
 unfold fitsAt at k2 ⊢
 rw [show i + (f a + 1) = i + 1 + f a by omega]; exact k2
theorem fit_first {fit : Nat → Nat → Bool} {i d k : Nat} {B : List Nat} (h : Fit (fitsAt fit (i + 1)) d B) (hk : fit i k = true) (hB : k ∉ B) : Fit (fitsAt fit i) (d + 1) (k :: B) := by
 obtain ⟨f, f1, f2⟩ := h
 refine ⟨fun a => if a = k then 0 else f a + 1, fun a ha => ?_, fun a ha b hb e => ?_⟩
 ·by_cases e : a = k
  ·subst e; simp only [if_true]; exact ⟨by omega, by unfold fitsAt; simpa using hk⟩
  ·have ha' : a ∈ B := by rcases List.mem_cons.1 ha with h | h; exact absurd h e; exact h
   obtain ⟨k1, k2⟩ := f1 a ha'; simp only [if_neg e]; refine ⟨by omega, ?_⟩
   unfold fitsAt at k2 ⊢
   rw [show i + (f a + 1) = i + 1 + f a by omega]; exact k2
 ·by_cases ea : a = k
  ·by_cases eb : b = k
   ·rw [ea, eb]
   ·simp [ea, eb] at e
  ·by_cases eb : b = k
   ·simp [ea, eb] at e
   ·simp only [if_neg ea, if_neg eb] at e
    have ha' : a ∈ B := by rcases List.mem_cons.1 ha with h | h; exact absurd h ea; exact h
    have hb' : b ∈ B := by rcases List.mem_cons.1 hb with h | h; exact absurd h eb; exact h
    exact f2 a ha' b hb' (by omega)
/-- Whoever is in slots: nobody is in the first one, or somebody is. -/
theorem fit_parts {fit : Nat → Nat → Bool} {i d : Nat} {B : List Nat} (hn : B.Nodup) (h : Fit (fitsAt fit i) (d + 1) B) : Fit (fitsAt fit (i + 1)) d B ∨ ∃ k ∈ B, fit i k = true ∧ Fit (fitsAt fit (i + 1)) d (B.erase k) := by
 obtain ⟨f, f1, f2⟩ := h
 have go : ∀ C : List Nat, (∀ c ∈ C, c ∈ B ∧ f c ≠ 0) → Fit (fitsAt fit (i + 1)) d C := fun C hC => by
  refine ⟨fun a => f a - 1, fun a ha => ?_, fun a ha b hb e => ?_⟩
  ·obtain ⟨hb, h0⟩ := hC a ha
   obtain ⟨k1, k2⟩ := f1 a hb; refine ⟨by show f a - 1 < d; omega, ?_⟩
   unfold fitsAt at k2 ⊢
   rw [show i + 1 + (f a - 1) = i + f a by omega]; exact k2
  ·obtain ⟨ha', h0⟩ := hC a ha
   obtain ⟨hb', h1⟩ := hC b hb; exact f2 a ha' b hb' (by simp only at e; omega)
 by_cases hex : ∃ k ∈ B, f k = 0
 ·obtain ⟨k, hk, h0⟩ := hex
  refine .inr ⟨k, hk, ?_, go _ fun c hc => ?_⟩
  ·have := (f1 k hk).2
   unfold fitsAt at this
   rw [h0] at this; simpa using this
  ·obtain ⟨hne, hc'⟩ := (List.Nodup.mem_erase_iff hn).1 hc
   exact ⟨hc', fun e => hne (f2 c hc' k hk (e.trans h0.symm))⟩
 ·exact .inl (go B fun c hc => ⟨hc, fun e => hex ⟨c, hc, e⟩⟩)
/-- What all ways tried come to: the most that some who can be placed at once are worth. -/
theorem dp_opt {n : Nat} {fit : Nat → Nat → Bool} {el : Nat → Bool} {w : Nat → Int} : ∀ (d i u : Nat),
  (∃ B : List Nat, B.Nodup ∧ (∀ b ∈ B, Free n el u b) ∧ Fit (fitsAt fit i) d B ∧ sumW w B = (dp n fit el w d i u).sum ∧ B.length = (dp n fit el w d i u).many) ∧
  ∀ B : List Nat, B.Nodup → (∀ b ∈ B, Free n el u b) → Fit (fitsAt fit i) d B → sumW w B ≤ (dp n fit el w d i u).sum
 | 0, i, u => by
  refine ⟨⟨[], List.nodup_nil, by simp, Fit.nil _ _, rfl, rfl⟩, fun B _ _ h => ?_⟩
  cases B with
  | nil => exact Int.le_refl _
  | cons b B => obtain ⟨f, f1, _⟩ := h; exact absurd (f1 b (by simp)).1 (by omega)
 | d + 1, i, u => by
  have hm := foldl_max (ok := okK fit el i u) (c := fun k => candK w (dp n fit el w d (i + 1) (u ||| (1 <<< k))) k) (List.range n) ⟨(dp n fit el w d (i + 1) u).sum, (dp n fit el w d (i + 1) u).many, 0 :: (dp n fit el w d (i + 1) u).who⟩
  have hd : dp n fit el w (d + 1) i u = (List.range n).foldl (pickB (okK fit el i u) fun k => candK w (dp n fit el w d (i + 1) (u ||| (1 <<< k))) k) ⟨(dp n fit el w d (i + 1) u).sum, (dp n fit el w d (i + 1) u).many, 0 :: (dp n fit el w d (i + 1) u).who⟩ := rfl
  rw [hd]; generalize (List.range n).foldl _ _ = r at hm
  obtain ⟨m1, m2, m3⟩ := hm; refine ⟨?_, fun B hn hF hB => ?_⟩
  ·rcases m3 with e | ⟨k, hk, hok, e⟩
   ·obtain ⟨B, b1, b2, b3, b4, b5⟩ := (dp_opt (n := n) (fit := fit) (el := el) (w := w) d (i + 1) u).1
    exact ⟨B, b1, b2, fit_later b3, by rw [e]; exact b4, by rw [e]; exact b5⟩
   ·obtain ⟨B, b1, b2, b3, b4, b5⟩ := (dp_opt (n := n) (fit := fit) (el := el) (w := w) d (i + 1) (u ||| (1 <<< k))).1
    unfold okK at hok
    simp only [Bool.and_eq_true, Bool.not_eq_true'] at hok
    have hkB : k ∉ B := fun h => (free_add.1 (b2 k h)).2 rfl
    refine ⟨k :: B, List.nodup_cons.2 ⟨hkB, b1⟩, fun b hb => ?_, fit_first b3 hok.1.2 hkB, ?_, ?_⟩
    ·rcases List.mem_cons.1 hb with rfl | hb
     ·exact ⟨List.mem_range.1 hk, hok.2, hok.1.1⟩
     ·exact (free_add.1 (b2 b hb)).1
    ·rw [e]; show w k + sumW w B = _ + w k; rw [b4]; omega
    ·rw [e]; show B.length + 1 = _ + 1; rw [b5]
  ·rcases fit_parts hn hB with h | ⟨k, hk, hfk, h⟩
   ·exact Int.le_trans ((dp_opt (n := n) (fit := fit) (el := el) (w := w) d (i + 1) u).2 B hn hF h) m1
   ·obtain ⟨h1, h2, h3⟩ := hF k hk
    have := (dp_opt (n := n) (fit := fit) (el := el) (w := w) d (i + 1) (u ||| (1 <<< k))).2 (B.erase k) (hn.sublist List.erase_sublist) (fun b hb => by
     obtain ⟨hne, hb'⟩ := (List.Nodup.mem_erase_iff hn).1 hb; exact free_add.2 ⟨hF b hb', hne⟩) h
    have hc := m2 k (List.mem_range.2 h1) (by unfold okK; rw [h3, hfk, h2]; rfl)
    rw [sumW_erase hk]; have hc' : (dp n fit el w d (i + 1) (u ||| (1 <<< k))).sum + w k ≤ r.sum := hc
    omega
theorem foldl_stay {ok : Nat → Bool} {c : Nat → LN} {b : LN} : ∀ (ks : List Nat), (∀ j ∈ ks, ok j = true → better (c j) b = false) → ks.foldl (pickB ok c) b = b
 | [], _ => rfl
 | k :: ks, h => by
  have e : pickB ok c b k = b := by
   unfold pickB; cases hk : ok k with
   | false => rfl
   | true => rw [h k (by simp) hk]; rfl
  rw [List.foldl_cons, e]; exact foldl_stay ks fun j hj => h j (by simp [hj])
theorem foldl_first {ok : Nat → Bool} {c : Nat → LN} {b : LN} {pre post : List Nat} {k : Nat} (hb : b.sum < (c k).sum) (hk : ok k = true) (hpre : ∀ j ∈ pre, ok j = true → (c j).sum < (c k).sum) (hpost : ∀ j ∈ post, ok j = true → better (c j) (c k) = false) : (pre ++ k :: post).foldl (pickB ok c) b = c k := by
 rw [List.foldl_append, List.foldl_cons]
 have hlt : (pre.foldl (pickB ok c) b).sum < (c k).sum := by
  rcases (foldl_max (ok := ok) (c := c) pre b).2.2 with e | ⟨j, hj, hok, e⟩
  ·rw [e]; exact hb
  ·rw [e]; exact hpre j hj hok
 generalize pre.foldl (pickB ok c) b = b' at hlt
 have e : pickB ok c b' k = c k := by
  unfold pickB
  have hbt : better (c k) b' = true := by
   unfold better; rw [if_pos (by omega)]
   exact decide_eq_true hlt
  rw [hk, hbt]; rfl
 rw [e]
 exact foldl_stay post hpost
/-- Those who are worth most together are as many in each way. -/
theorem same_many {fits : Nat → Nat → Bool} {P : Nat} {w : Nat → Int} {M : Int} {F : Nat → Prop} (hw : ∀ x, F x → 0 < w x) (hM : ∀ B : List Nat, B.Nodup → (∀ b ∈ B, F b) → Fit fits P B → sumW w B ≤ M) {A B : List Nat} (a1 : A.Nodup) (a2 : ∀ b ∈ A, F b) (a3 : Fit fits P A) (a4 : sumW w A = M) (b1 : B.Nodup) (b2 : ∀ b ∈ B, F b) (b3 : Fit fits P B) : B.length ≤ A.length := by
 refine Nat.le_of_not_lt fun hlt => ?_
 obtain ⟨b, hb, hbA, h⟩ := Fit.exchange b1 a3 b3 hlt
 have h1 := hM (b :: A) (List.nodup_cons.2 ⟨hbA, a1⟩) (fun x hx => by rcases List.mem_cons.1 hx with rfl | hx; exact b2 _ hb; exact a2 x hx) h
 have h2 := hw b (b2 b hb)
 have h3 : sumW w (b :: A) = w b + sumW w A := rfl
 omega
noncomputable def canP (fits : Nat → Nat → Bool) (P : Nat) (A : List Nat) : Bool := @decide (Fit fits P A) (Classical.propDecidable _)
theorem canP_iff (fits : Nat → Nat → Bool) (P : Nat) (A : List Nat) : canP fits P A = true ↔ Fit fits P A := @decide_eq_true_iff _ (Classical.propDecidable _)
/-- The most that those of a list can bring, placed one after the other. -/
noncomputable def great (fit : Nat → Nat → Bool) (w : Nat → Int) (i d : Nat) (left : List Nat) : Int := sumW w (grd (canP (fitsAt fit i) d) [] left)
theorem great_dp {n : Nat} {fit : Nat → Nat → Bool} {el : Nat → Bool} {w : Nat → Int} {i d u : Nat} {left : List Nat} (hn : left.Nodup) (hm : ∀ x, x ∈ left ↔ Free n el u x) (hp : left.Pairwise fun a b => w b ≤ w a) (hw : ∀ x, el x = true → 0 < w x) : great fit w i d left = (dp n fit el w d i u).sum := by
 obtain ⟨g1, g2, g3, g4, g5⟩ := grd_best (canP_iff (fitsAt fit i) d) (w := w) hn (fun x hx => Int.le_of_lt (hw x ((hm x).1 hx).2.1)) hp
 obtain ⟨⟨B, b1, b2, b3, b4, _⟩, k⟩ := dp_opt (n := n) (fit := fit) (el := el) (w := w) d i u
 refine Int.le_antisymm (k _ g1 (fun b hb => (hm b).1 (g2 b hb)) g3) ?_
 rw [← b4]
 exact g5 B b1 (fun b hb => (hm b).2 (b2 b hb)) b3
/-- The program's way: slot by slot, nobody if that is as good, or else the first one who is. -/
noncomputable def bestGo (n : Nat) (fit : Nat → Nat → Bool) (w : Nat → Int) : Nat → Nat → List Nat → Int → List Nat
 | 0, _, _, _ => []
 | d + 1, i, left, op =>
  if great fit w (i + 1) d left = op then 0 :: bestGo n fit w d (i + 1) left op
  else match (List.range n).find? (fun k => decide ((left.filter fun x => x != k).length < left.length) && fit i k && decide (w k + great fit w (i + 1) d (left.filter fun x => x != k) = op)) with
   | some k => (k + 1) :: bestGo n fit w d (i + 1) (left.filter fun x => x != k) (op - w k)
   | none => 0 :: bestGo n fit w d (i + 1) left op
theorem filter_len {left : List Nat} {k : Nat} : (left.filter fun x => x != k).length < left.length ↔ k ∈ left := by
 induction left with
 | nil => simp
 | cons a l ih =>
  have hle : (l.filter fun x => x != k).length ≤ l.length := List.length_filter_le _ _
  by_cases h : a = k
  ·subst h; simp only [List.filter_cons, bne_self_eq_false, Bool.false_eq_true, if_false, List.length_cons]; exact ⟨fun _ => by simp, fun _ => by omega⟩
  ·have h' : ¬ k = a := fun e => h e.symm
   simp [h, h'] at ih ⊢
   try exact ih
theorem best_dp {n : Nat} {fit : Nat → Nat → Bool} {el : Nat → Bool} {w : Nat → Int} (hw : ∀ x, el x = true → 0 < w x) : ∀ (d i u : Nat) (left : List Nat), left.Nodup → (∀ x, x ∈ left ↔ Free n el u x) → (left.Pairwise fun a b => w b ≤ w a) → bestGo n fit w d i left (dp n fit el w d i u).sum = (dp n fit el w d i u).who
 | 0, _, _, _, _, _, _ => rfl
 | d + 1, i, u, left, hn, hm, hp => by
  have hsub : ∀ k, (left.filter fun x => x != k).Nodup ∧ (left.filter fun x => x != k).Pairwise (fun a b => w b ≤ w a) ∧ ∀ x, x ∈ (left.filter fun x => x != k) ↔ Free n el (u ||| (1 <<< k)) x := fun k => by
   refine ⟨hn.sublist List.filter_sublist, hp.sublist List.filter_sublist, fun x => ?_⟩
   rw [List.mem_filter, free_add, hm x]; simp
  have g0 : great fit w (i + 1) d left = (dp n fit el w d (i + 1) u).sum := great_dp hn hm hp hw
  have gk : ∀ k, great fit w (i + 1) d (left.filter fun x => x != k) = (dp n fit el w d (i + 1) (u ||| (1 <<< k))).sum := fun k => great_dp (hsub k).1 (hsub k).2.2 (hsub k).2.1 hw
  -- the candidates, and the most of them
  have hopt := dp_opt (n := n) (fit := fit) (el := el) (w := w) (d + 1) i u; obtain ⟨⟨A, a1, a2, a3, a4, a5⟩, hmax⟩ := hopt
  have hfree : ∀ x, Free n el u x → 0 < w x := fun x hx => hw x hx.2.1
  have hmany : ∀ B : List Nat, B.Nodup → (∀ b ∈ B, Free n el u b) → Fit (fitsAt fit i) (d + 1) B → sumW w B = (dp n fit el w (d + 1) i u).sum → B.length = A.length := fun B b1 b2 b3 b4 =>
   Nat.le_antisymm (same_many hfree hmax a1 a2 a3 a4 b1 b2 b3) (same_many hfree hmax b1 b2 b3 b4 a1 a2 a3)
  have hc0 : (dp n fit el w d (i + 1) u).sum = (dp n fit el w (d + 1) i u).sum → (dp n fit el w d (i + 1) u).many = A.length := fun e => by
   obtain ⟨B, b1, b2, b3, b4, b5⟩ := (dp_opt (n := n) (fit := fit) (el := el) (w := w) d (i + 1) u).1; rw [← b5]; exact hmany B b1 b2 (fit_later b3) (b4.trans e)
  have hck : ∀ k, k < n → okK fit el i u k = true → (dp n fit el w d (i + 1) (u ||| (1 <<< k))).sum + w k = (dp n fit el w (d + 1) i u).sum → (dp n fit el w d (i + 1) (u ||| (1 <<< k))).many + 1 = A.length := fun k hkn hok e => by
   obtain ⟨B, b1, b2, b3, b4, b5⟩ := (dp_opt (n := n) (fit := fit) (el := el) (w := w) d (i + 1) (u ||| (1 <<< k))).1
   unfold okK at hok
   simp only [Bool.and_eq_true, Bool.not_eq_true'] at hok
   have hkB : k ∉ B := fun h => (free_add.1 (b2 k h)).2 rfl
   have := hmany (k :: B) (List.nodup_cons.2 ⟨hkB, b1⟩) (fun b hb => by
    rcases List.mem_cons.1 hb with rfl | hb
    ·exact ⟨hkn, hok.2, hok.1.1⟩
    ·exact (free_add.1 (b2 b hb)).1) (fit_first b3 hok.1.2 hkB) (by show w k + sumW w B = _; rw [b4]; omega)
   rw [← this, List.length_cons, b5]
  have hd : dp n fit el w (d + 1) i u = (List.range n).foldl (pickB (okK fit el i u) fun k => candK w (dp n fit el w d (i + 1) (u ||| (1 <<< k))) k) ⟨(dp n fit el w d (i + 1) u).sum, (dp n fit el w d (i + 1) u).many, 0 :: (dp n fit el w d (i + 1) u).who⟩ := rfl
  have hfm := foldl_max (ok := okK fit el i u) (c := fun k => candK w (dp n fit el w d (i + 1) (u ||| (1 <<< k))) k) (List.range n) ⟨(dp n fit el w d (i + 1) u).sum, (dp n fit el w d (i + 1) u).many, 0 :: (dp n fit el w d (i + 1) u).who⟩
  rw [← hd] at hfm
  obtain ⟨m1, m2, m3⟩ := hfm; have m1' : (dp n fit el w d (i + 1) u).sum ≤ (dp n fit el w (d + 1) i u).sum := m1
  have m2' : ∀ k, k < n → okK fit el i u k = true → (dp n fit el w d (i + 1) (u ||| (1 <<< k))).sum + w k ≤ (dp n fit el w (d + 1) i u).sum := fun k hk hok => m2 k (List.mem_range.2 hk) hok
  unfold bestGo; rw [g0]; by_cases he : (dp n fit el w d (i + 1) u).sum = (dp n fit el w (d + 1) i u).sum
  ·rw [if_pos he]
   have hst : dp n fit el w (d + 1) i u = ⟨(dp n fit el w d (i + 1) u).sum, (dp n fit el w d (i + 1) u).many, 0 :: (dp n fit el w d (i + 1) u).who⟩ := by
    rw [hd]; refine foldl_stay _ fun k hk hok => ?_
    have hkn := List.mem_range.1 hk; have hle := m2' k hkn hok; unfold better; by_cases hs : (dp n fit el w d (i + 1) (u ||| (1 <<< k))).sum + w k = (dp n fit el w d (i + 1) u).sum
    ·rw [if_neg (by show ¬ (_ ≠ _); simpa [candK] using hs), if_neg (by
      have h1 := hc0 he; have h2 := hck k hkn hok (hs.trans he); show ¬ (_ ≠ _)
      simp [candK]; omega)]
     simp [candK, lexLt]
    ·rw [if_pos (by show _ ≠ _; simpa [candK] using hs)]
     refine decide_eq_false ?_; show ¬ (_ < _)
     simp only [candK]; omega
   rw [← he, best_dp hw d (i + 1) u left hn hm hp]; rw [hst]
  ·rw [if_neg he]
   have hlt : (dp n fit el w d (i + 1) u).sum < (dp n fit el w (d + 1) i u).sum := by omega
   have hpred : ∀ k, k < n → ((decide ((left.filter fun x => x != k).length < left.length) && fit i k && decide (w k + great fit w (i + 1) d (left.filter fun x => x != k) = (dp n fit el w (d + 1) i u).sum)) = true ↔ okK fit el i u k = true ∧ (dp n fit el w d (i + 1) (u ||| (1 <<< k))).sum + w k = (dp n fit el w (d + 1) i u).sum) := fun k hkn => by
    rw [gk k]; simp only [Bool.and_eq_true, decide_eq_true_eq, okK, Bool.not_eq_true']; rw [filter_len, hm k]; unfold Free; constructor
    ·rintro ⟨⟨⟨_, h1, h2⟩, h3⟩, h4⟩; exact ⟨⟨⟨h2, h3⟩, h1⟩, by omega⟩
    ·rintro ⟨⟨⟨h2, h3⟩, h1⟩, h4⟩; exact ⟨⟨⟨hkn, h1, h2⟩, h3⟩, by omega⟩
   obtain ⟨k0, hk0, hok0, hs0⟩ : ∃ k, k < n ∧ okK fit el i u k = true ∧ (dp n fit el w d (i + 1) (u ||| (1 <<< k))).sum + w k = (dp n fit el w (d + 1) i u).sum := by
    rcases m3 with e | ⟨k, hk, hok, e⟩
    ·exfalso
     have := congrArg LN.sum e
     simp only at this
     omega
    ·refine ⟨k, List.mem_range.1 hk, hok, ?_⟩
     have := congrArg LN.sum e
     simp only [candK] at this
     exact this.symm
   cases hf : (List.range n).find? (fun k => decide ((left.filter fun x => x != k).length < left.length) && fit i k && decide (w k + great fit w (i + 1) d (left.filter fun x => x != k) = (dp n fit el w (d + 1) i u).sum)) with
   | none =>
    exfalso
    have := List.find?_eq_none.1 hf k0 (List.mem_range.2 hk0)
    exact this ((hpred k0 hk0).2 ⟨hok0, hs0⟩)
   | some k =>
    obtain ⟨hpk, pre, post, hr, hpre⟩ := List.find?_eq_some_iff_append.1 hf; have hkn : k < n := List.mem_range.1 (by rw [hr]; simp)
    obtain ⟨hok, hs⟩ := (hpred k hkn).1 hpk
    have hst : dp n fit el w (d + 1) i u = candK w (dp n fit el w d (i + 1) (u ||| (1 <<< k))) k := by
     rw [hd, hr]; refine foldl_first (c := fun k => candK w (dp n fit el w d (i + 1) (u ||| (1 <<< k))) k) ?_ hok (fun j hj hokj => ?_) fun j hj hokj => ?_
     ·show (dp n fit el w d (i + 1) u).sum < (dp n fit el w d (i + 1) (u ||| (1 <<< k))).sum + w k
      omega
     ·have hjn : j < n := List.mem_range.1 (by rw [hr]; simp [hj])
      have h1 := m2' j hjn hokj; have h2 := hpre j hj
      have h3 : ¬ ((dp n fit el w d (i + 1) (u ||| (1 <<< j))).sum + w j = (dp n fit el w (d + 1) i u).sum) := fun e => by
       rw [(hpred j hjn).2 ⟨hokj, e⟩] at h2; simp at h2
      show (dp n fit el w d (i + 1) (u ||| (1 <<< j))).sum + w j < (dp n fit el w d (i + 1) (u ||| (1 <<< k))).sum + w k
      omega
     ·have hjn : j < n := List.mem_range.1 (by rw [hr]; simp [hj])
      have hkj : k < j := by
       have := List.pairwise_lt_range (n := n)
       rw [hr, List.pairwise_append] at this
       exact List.rel_of_pairwise_cons this.2.1 hj
      have h1 := m2' j hjn hokj; unfold better; by_cases hsj : (dp n fit el w d (i + 1) (u ||| (1 <<< j))).sum + w j = (dp n fit el w d (i + 1) (u ||| (1 <<< k))).sum + w k
      ·rw [if_neg (by show ¬ (_ ≠ _); simpa [candK] using hsj), if_neg (by
        have h2 := hck j hjn hokj (hsj.trans hs); have h3 := hck k hkn hok hs; show ¬ (_ ≠ _)
        simp [candK]; omega)]
       have l1 : ¬ (j + 1 < k + 1) := by omega
       have l2 : k + 1 < j + 1 := by omega
       show lexLt ((j + 1) :: _) ((k + 1) :: _) = false
       unfold lexLt; rw [if_neg l1, if_pos l2]
      ·rw [if_pos (by show _ ≠ _; simpa [candK] using hsj)]
       refine decide_eq_false ?_; show ¬ ((dp n fit el w d (i + 1) (u ||| (1 <<< k))).sum + w k < (dp n fit el w d (i + 1) (u ||| (1 <<< j))).sum + w j)
       omega
    show (k + 1) :: bestGo n fit w d (i + 1) (left.filter fun x => x != k) ((dp n fit el w (d + 1) i u).sum - w k) = _
    have e1 : (dp n fit el w (d + 1) i u).sum - w k = (dp n fit el w d (i + 1) (u ||| (1 <<< k))).sum := by omega
    rw [e1, best_dp hw d (i + 1) (u ||| (1 <<< k)) _ (hsub k).1 (hsub k).2.2 (hsub k).2.1, hst]
    rfl
end Go.Proofs.YtfcaokpadodijaaGreat.Mat
namespace Go.Proofs.YtfcaokpadodijaaGreat.Mat

/-- A set of places that some can be at, each at one of its own. -/
def Rch (fits : Nat → Nat → Bool) (P : Nat) (xs : List Nat) (m : Nat) : Prop := ∃ f : Nat → Nat, (∀ a ∈ xs, f a < P ∧ fits a (f a) = true) ∧ (∀ a ∈ xs, ∀ b ∈ xs, f a = f b → a = b) ∧ ∀ i, m.testBit i = true ↔ ∃ a ∈ xs, f a = i
theorem rch_nil {fits : Nat → Nat → Bool} {P m : Nat} : Rch fits P [] m ↔ m = 0 := by
 constructor
 ·rintro ⟨f, _, _, h⟩
  refine Nat.eq_of_testBit_eq fun i => ?_
  rw [Nat.zero_testBit]; cases hb : m.testBit i with
  | false => rfl
  | true => obtain ⟨a, ha, _⟩ := (h i).1 hb; cases ha
 ·rintro rfl
  exact ⟨fun _ => 0, by simp, by simp, fun i => by simp⟩
theorem rch_snoc {fits : Nat → Nat → Bool} {P k m' : Nat} {xs : List Nat} (hk : k ∉ xs) : Rch fits P (xs ++ [k]) m' ↔ ∃ m i, Rch fits P xs m ∧ i < P ∧ m.testBit i = false ∧ fits k i = true ∧ m' = m ||| (1 <<< i) := by
 constructor
 ·rintro ⟨f, f1, f2, f3⟩
  obtain ⟨k1, k2⟩ := f1 k (by simp)
  have hi : m'.testBit (f k) = true := (f3 _).2 ⟨k, by simp, rfl⟩
  refine ⟨m' ^^^ (1 <<< f k), f k, ⟨f, fun a ha => f1 a (by simp [ha]), fun a ha b hb => f2 a (by simp [ha]) b (by simp [hb]), fun i => ?_⟩, k1, ?_, k2, ?_⟩
  ·rw [Nat.testBit_xor, Nat.one_shiftLeft, Nat.testBit_two_pow]
   constructor
   ·intro h
    by_cases e : f k = i
    ·subst e; rw [hi] at h; simp at h
    ·have h' : m'.testBit i = true := by simpa [e] using h
     obtain ⟨a, ha, hfa⟩ := (f3 i).1 h'; rw [List.mem_append] at ha
     rcases ha with ha | ha
     ·exact ⟨a, ha, hfa⟩
     ·simp at ha; subst ha; exact absurd hfa e
   ·rintro ⟨a, ha, hfa⟩
    have e : ¬ f k = i := fun e => hk (by
     have := f2 k (by simp) a (by simp [ha]) (e.trans hfa.symm)
     rw [this]; exact ha)
    have := (f3 i).2 ⟨a, by simp [ha], hfa⟩
    simp [e, this]
  ·rw [Nat.testBit_xor, Nat.one_shiftLeft, Nat.testBit_two_pow, hi]; simp
  ·refine Nat.eq_of_testBit_eq fun i => ?_
   rw [testBit_add, Nat.testBit_xor, Nat.one_shiftLeft, Nat.testBit_two_pow]; by_cases e : f k = i
   ·subst e; simp [hi]
   ·have e' : ¬ i = f k := fun h => e h.symm
    simp [e, e']
 ·rintro ⟨m, i, ⟨f, f1, f2, f3⟩, hi, hb, hf, rfl⟩
  have hno : ∀ a ∈ xs, f a ≠ i := fun a ha e => by
   rw [(f3 i).2 ⟨a, ha, e⟩] at hb; cases hb
  refine ⟨fun a => if a = k then i else f a, fun a ha => ?_, fun a ha b hb e => ?_, fun j => ?_⟩
  ·by_cases e : a = k
   ·subst e; simp only [if_true]; exact ⟨hi, hf⟩
   ·have ha' : a ∈ xs := by rw [List.mem_append] at ha; rcases ha with h | h; exact h; simp at h; exact absurd h e
    simp only [if_neg e]; exact f1 a ha'
  ·by_cases ea : a = k
   ·by_cases eb : b = k
    ·rw [ea, eb]
    ·have hb' : b ∈ xs := by rw [List.mem_append] at hb; rcases hb with h | h; exact h; simp at h; exact absurd h eb
     simp only [if_pos ea, if_neg eb] at e
     exact absurd e.symm (hno b hb')
   ·have ha' : a ∈ xs := by rw [List.mem_append] at ha; rcases ha with h | h; exact h; simp at h; exact absurd h ea
    by_cases eb : b = k
    ·simp only [if_neg ea, if_pos eb] at e
     exact absurd e (hno a ha')
    ·have hb' : b ∈ xs := by rw [List.mem_append] at hb; rcases hb with h | h; exact h; simp at h; exact absurd h eb
     simp only [if_neg ea, if_neg eb] at e
     exact f2 a ha' b hb' e
  ·rw [testBit_add, Bool.or_eq_true, decide_eq_true_eq, f3 j]
   constructor
   ·rintro (⟨a, ha, e⟩ | e)
    ·have hne : a ≠ k := fun h => hk (h ▸ ha)
     exact ⟨a, by simp [ha], by simp only [if_neg hne]; exact e⟩
    ·exact ⟨k, by simp, by simp only [if_true]; exact e.symm⟩
   ·rintro ⟨a, ha, e⟩
    by_cases ea : a = k
    ·simp only [if_pos ea] at e; exact .inr e.symm
    ·have ha' : a ∈ xs := by rw [List.mem_append] at ha; rcases ha with h | h; exact h; simp at h; exact absurd h ea
     simp only [if_neg ea] at e
     exact .inl ⟨a, ha', e⟩
/-- The set of some numbers, as bits. -/
def maskL : List Nat → Nat
 | [] => 0
 | x :: xs => maskL xs ||| (1 <<< x)
theorem maskL_bit {i : Nat} : ∀ {xs : List Nat}, (maskL xs).testBit i = true ↔ i ∈ xs
 | [] => by simp [maskL]
 | x :: xs => by
  unfold maskL; rw [testBit_add, Bool.or_eq_true, decide_eq_true_eq, maskL_bit, List.mem_cons]; exact Or.comm
/-- Some can be placed at once just if there is such a set. -/
theorem rch_fit {fits : Nat → Nat → Bool} {P : Nat} {xs : List Nat} : (∃ m, Rch fits P xs m) ↔ Fit fits P xs := by
 constructor
 ·rintro ⟨m, f, f1, f2, _⟩; exact ⟨f, f1, f2⟩
 ·rintro ⟨f, f1, f2⟩
  exact ⟨maskL (xs.map f), f, f1, f2, fun i => by rw [maskL_bit, List.mem_map]⟩
/-- A set of places that some of a list can be at. -/
def Rcl (fits : Nat → Nat → Bool) (P : Nat) (xs : List Nat) (m : Nat) : Prop := ∃ B : List Nat, B.Nodup ∧ (∀ b ∈ B, b ∈ xs) ∧ Rch fits P B m
theorem rcl_nil {fits : Nat → Nat → Bool} {P m : Nat} : Rcl fits P [] m ↔ m = 0 := by
 constructor
 ·rintro ⟨B, _, h, k⟩
  have e : B = [] := by cases B with | nil => rfl | cons b B => have := h b (by simp); cases this
  subst e; exact rch_nil.1 k
 ·rintro rfl; exact ⟨[], List.nodup_nil, by simp, rch_nil.2 rfl⟩
theorem Rch.perm {fits : Nat → Nat → Bool} {P m : Nat} {xs ys : List Nat} (h : Rch fits P xs m) (e : ∀ x, x ∈ xs ↔ x ∈ ys) : Rch fits P ys m := by
 obtain ⟨f, f1, f2, f3⟩ := h
 refine ⟨f, fun a ha => f1 a ((e a).2 ha), fun a ha b hb => f2 a ((e a).2 ha) b ((e b).2 hb), fun i => (f3 i).trans ⟨?_, ?_⟩⟩
 ·rintro ⟨a, ha, k⟩; exact ⟨a, (e a).1 ha, k⟩
 ·rintro ⟨a, ha, k⟩; exact ⟨a, (e a).2 ha, k⟩
theorem rcl_snoc {fits : Nat → Nat → Bool} {P k m' : Nat} {xs : List Nat} (hk : k ∉ xs) : Rcl fits P (xs ++ [k]) m' ↔ Rcl fits P xs m' ∨ ∃ m i, Rcl fits P xs m ∧ i < P ∧ m.testBit i = false ∧ fits k i = true ∧ m' = m ||| (1 <<< i) := by
 constructor
 ·rintro ⟨B, b1, b2, b3⟩
  by_cases hkB : k ∈ B
  ·have hke : k ∉ B.erase k := fun h => ((List.Nodup.mem_erase_iff b1).1 h).1 rfl
   have h : Rch fits P (B.erase k ++ [k]) m' := b3.perm fun x => by
    rw [List.mem_append, List.Nodup.mem_erase_iff b1]; by_cases e : x = k
    ·subst e; simp [hkB]
    ·simp [e]
   obtain ⟨m, i, h1, h2⟩ := (rch_snoc hke).1 h; refine .inr ⟨m, i, ⟨B.erase k, b1.sublist List.erase_sublist, fun b hb => ?_, h1⟩, h2⟩
   obtain ⟨hne, hb'⟩ := (List.Nodup.mem_erase_iff b1).1 hb; have := b2 b hb'
   rw [List.mem_append] at this
   rcases this with h | h
   ·exact h
   ·simp at h; exact absurd h hne
  ·refine .inl ⟨B, b1, fun b hb => ?_, b3⟩
   have := b2 b hb
   rw [List.mem_append] at this
   rcases this with h | h
   ·exact h
   ·simp at h; subst h; exact absurd hb hkB
 ·rintro (⟨B, b1, b2, b3⟩ | ⟨m, i, ⟨B, b1, b2, b3⟩, h⟩)
  ·exact ⟨B, b1, fun b hb => by simp [b2 b hb], b3⟩
  ·have hkB : k ∉ B := fun h => hk (b2 k h)
   refine ⟨B ++ [k], ?_, fun b hb => ?_, (rch_snoc hkB).2 ⟨m, i, b3, h⟩⟩
   ·rw [List.nodup_append]
    refine ⟨b1, by simp, fun a ha b hb e => ?_⟩
    simp at hb; subst hb; exact hkB (e ▸ ha)
   ·rw [List.mem_append] at hb ⊢
    rcases hb with h | h
    ·exact .inl (b2 b h)
    ·exact .inr h
def slotsOf (P m : Nat) : List Nat := (List.range P).filter fun i => m.testBit i
/-- A set of places that some of n can be at: those places can be given each one of the n. -/
theorem rcl_dual {fits : Nat → Nat → Bool} {P n m : Nat} : Rcl fits P (List.range n) m ↔ (∀ i, m.testBit i = true → i < P) ∧ Fit (fun s k => fits k s) n (slotsOf P m) := by
 constructor
 ·rintro ⟨B, b1, b2, f, f1, f2, f3⟩
  have hlt : ∀ i, m.testBit i = true → i < P := fun i hi => by
   obtain ⟨a, ha, e⟩ := (f3 i).1 hi; rw [← e]; exact (f1 a ha).1
  have hex : ∀ i, i ∈ slotsOf P m → ∃ a, a ∈ B ∧ f a = i := fun i hi => by
   obtain ⟨a, ha, e⟩ := (f3 i).1 (List.mem_filter.1 hi).2; exact ⟨a, ha, e⟩
  refine ⟨hlt, fun i => if h : i ∈ slotsOf P m then (hex i h).choose else 0, fun i hi => ?_, fun i hi j hj e => ?_⟩
  ·simp only [dif_pos hi]
   obtain ⟨k1, k2⟩ := (hex i hi).choose_spec; refine ⟨List.mem_range.1 (b2 _ k1), ?_⟩; have := (f1 _ k1).2
   rw [k2] at this; exact this
  ·simp only [dif_pos hi, dif_pos hj] at e
   obtain ⟨_, k2⟩ := (hex i hi).choose_spec; obtain ⟨_, l2⟩ := (hex j hj).choose_spec; rw [← k2, e, l2]
 ·rintro ⟨hlt, g, g1, g2⟩
  have hn : (slotsOf P m).Nodup := List.nodup_range.sublist List.filter_sublist
  have hmem : ∀ i, m.testBit i = true ↔ i ∈ slotsOf P m := fun i => ⟨fun h => List.mem_filter.2 ⟨List.mem_range.2 (hlt i h), h⟩, fun h => (List.mem_filter.1 h).2⟩
  have hin : ∀ i ∈ slotsOf P m, i < P := fun i hi => List.mem_range.1 (List.mem_filter.1 hi).1
  generalize slotsOf P m = S at g1 g2 hn hmem hin
  have hex : ∀ a, a ∈ S.map g → ∃ i, i ∈ S ∧ g i = a := fun a ha => by
   obtain ⟨i, hi, e⟩ := List.mem_map.1 ha; exact ⟨i, hi, e⟩
  refine ⟨S.map g, nodup_map S hn g2, fun b hb => ?_, fun a => if h : a ∈ S.map g then (hex a h).choose else 0, fun a ha => ?_, fun a ha b hb e => ?_, fun i => ?_⟩
  ·obtain ⟨i, hi, rfl⟩ := List.mem_map.1 hb
   exact List.mem_range.2 (g1 i hi).1
  ·simp only [dif_pos ha]
   obtain ⟨k1, k2⟩ := (hex a ha).choose_spec; refine ⟨hin _ k1, ?_⟩; have := (g1 _ k1).2
   rw [k2] at this; exact this
  ·simp only [dif_pos ha, dif_pos hb] at e
   obtain ⟨_, k2⟩ := (hex a ha).choose_spec; obtain ⟨_, l2⟩ := (hex b hb).choose_spec; rw [← k2, e, l2]
  ·rw [hmem i]
   constructor
   ·intro hi
    have ha : g i ∈ S.map g := List.mem_map_of_mem hi
    refine ⟨g i, ha, ?_⟩; simp only [dif_pos ha]; obtain ⟨k1, k2⟩ := (hex _ ha).choose_spec; exact g2 _ k1 i hi k2
   ·rintro ⟨a, ha, e⟩
    simp only [dif_pos ha] at e
    obtain ⟨k1, _⟩ := (hex a ha).choose_spec; rw [← e]; exact k1
/-- Who is placed of the first j is placed in the end, and nobody else of them. -/
theorem grd_prefix {can : List Nat → Bool} {j x : Nat} : ∀ (P : Nat), j ≤ P → (x ∈ grd can [] (List.range j) ↔ x ∈ grd can [] (List.range P) ∧ x < j)
 | 0, h => by
  obtain rfl : j = 0 := by omega
  simp [grd]
 | P + 1, h => by
  have hlt : ∀ (Q : Nat) (x : Nat), x ∈ grd can [] (List.range Q) → x < Q := fun Q => by
   induction Q with
   | zero => intro x hx; simp [grd] at hx
   | succ Q ih =>
    intro x hx; rw [List.range_succ, grd_snoc] at hx
    split at hx
    ·rcases List.mem_cons.1 hx with e | e
     ·omega
     ·have := ih x e; omega
    ·have := ih x hx; omega
  by_cases e : j = P + 1
  ·subst e
   exact ⟨fun k => ⟨k, hlt _ x k⟩, fun k => k.1⟩
  ·rw [grd_prefix P (by omega), List.range_succ, grd_snoc]
   split
   ·rw [List.mem_cons]
    constructor
    ·rintro ⟨a, b⟩; exact ⟨.inr a, b⟩
    ·rintro ⟨a | a, b⟩
     ·omega
     ·exact ⟨a, b⟩
   ·exact Iff.rfl
/-- THE SLOTS THAT ARE FILLED ONE AFTER THE OTHER ARE AS MANY AS CAN BE, AND OF SEVERAL SETS OF THEM THE FIRST IN ORDER. -/
theorem lack_best {fits : Nat → Nat → Bool} {P n m : Nat} {can : List Nat → Bool} (hcan : ∀ A, can A = true ↔ Fit fits n A) (hm : Fit fits n (slotsOf P m)) :
  (slotsOf P m).length ≤ (grd can [] (List.range P)).length ∧ ((∀ i, i < P → (m.testBit i = true ↔ i ∈ grd can [] (List.range P))) ∨ ∃ j, j < P ∧ j ∈ grd can [] (List.range P) ∧ m.testBit j = false ∧ ∀ i, i < j → (m.testBit i = true ↔ i ∈ grd can [] (List.range P))) := by
 obtain ⟨g1, g2, g3, g4, _⟩ := grd_best hcan (w := fun _ => 0) (who := List.range P) List.nodup_range (fun _ _ => Int.le_refl _) (by
  refine List.Pairwise.imp (fun _ => Int.le_refl _) (List.pairwise_lt_range (n := P)))
 refine ⟨most g4 g3 (List.nodup_range.sublist List.filter_sublist) (fun b hb => (List.mem_filter.1 hb).1) hm, ?_⟩
 have key : ∀ q, q ≤ P → (∀ i, i < q → (m.testBit i = true ↔ i ∈ grd can [] (List.range P))) ∨ ∃ j, j < P ∧ j ∈ grd can [] (List.range P) ∧ m.testBit j = false ∧ ∀ i, i < j → (m.testBit i = true ↔ i ∈ grd can [] (List.range P)) := by
  intro q; induction q with
  | zero => intro _; exact .inl fun i h => by omega
  | succ q ih =>
   intro hq; rcases ih (by omega) with h | h
   ·by_cases hin : q ∈ grd can [] (List.range P)
    ·cases hb : m.testBit q with
     | true =>
      refine .inl fun i hi => ?_
      by_cases e : i = q
      ·subst e; exact ⟨fun _ => hin, fun _ => hb⟩
      ·exact h i (by omega)
     | false => exact .inr ⟨q, by omega, hin, hb, h⟩
    ·cases hb : m.testBit q with
     | false =>
      refine .inl fun i hi => ?_
      by_cases e : i = q
      ·subst e; exact ⟨fun k => (by rw [hb] at k; cases k), fun k => absurd k hin⟩
      ·exact h i (by omega)
     | true =>
      exfalso
      -- q could have been filled besides those before it
      have hno : can (q :: grd can [] (List.range q)) = true := (hcan _).2 (hm.sub fun x hx => by
       rcases List.mem_cons.1 hx with e | e
       ·subst e; exact List.mem_filter.2 ⟨List.mem_range.2 (by omega), hb⟩
       ·obtain ⟨k1, k2⟩ := (grd_prefix P (by omega)).1 e
        exact List.mem_filter.2 ⟨List.mem_range.2 (by omega), (h x k2).2 k1⟩)
      have : q ∈ grd can [] (List.range (q + 1)) := by
       rw [List.range_succ, grd_snoc, if_pos hno]; simp
      exact hin ((grd_prefix P hq).1 this).1
   ·exact .inr h
 exact key P (Nat.le_refl _)
end Go.Proofs.YtfcaokpadodijaaGreat.Mat
