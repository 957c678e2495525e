/-
  CHAPTER 22 WITHOUT THE PROGRAM: what the law FnGlued says: the greatest gap and the symmetry of a gluing, and of a telescopic list. (Own work.)
-/
import Derived.Test.YtipfonpaaebjjaaGreatSgTe
import Derived.Test.YtipfonpaaebjjaaGreatSgS
namespace Go.Proofs.YtipfonpaaebjjaaGreat
open Go Go.RowKit

theorem bezN (m n : Nat) : ∃ u v : Int, (m : Int) * u + (n : Int) * v = (Nat.gcd m n : Nat) := by
  induction m, n using Nat.gcd.induction with
  | H0 n => exact ⟨0, 1, by simp⟩
  | H1 m n h ih =>
    obtain ⟨u, v, e⟩ := ih
    refine ⟨v - (n / m : Nat) * u, u, ?_⟩
    rw [Nat.gcd_rec, ← e]
    have h2 : (n : Int) = (m : Int) * ((n / m : Nat) : Int) + ((n % m : Nat) : Int) := by
      have := Nat.div_add_mod n m
      exact_mod_cast this.symm
    generalize ((n / m : Nat) : Int) = q at *
    generalize ((n % m : Nat) : Int) = r at *
    rw [h2]
    grind
/-- A set of integers that is closed under adding, with its greatest gap. -/
structure Num (P : Int → Prop) (F : Int) : Prop where
  neg : ∀ z, z < 0 → ¬ P z
  plus : ∀ a b, P a → P b → P (a + b)
  zero : P 0
  gap : ¬ P F
  far : ∀ z, F < z → P z
theorem Num.times {P : Int → Prop} {F : Int} (h : Num P F) {y : Int} (hy : P y) : ∀ k : Nat, P (y * (k : Int))
  | 0 => by rw [Int.natCast_zero, Int.mul_zero]; exact h.zero
  | k + 1 => by
    have := h.plus _ _ (Num.times h hy k) hy
    rw [show y * ((k + 1 : Nat) : Int) = y * (k : Int) + y by grind]
    exact this
theorem Num.up {P : Int → Prop} {F : Int} (h : Num P F) {y : Int} (hy : P y) {a : Int} (ha : P a) {t : Int} (ht : 0 ≤ t) : P (a + y * t) := by
  obtain ⟨k, rfl⟩ := Int.eq_ofNat_of_zero_le ht
  exact h.plus _ _ ha (h.times hy k)
theorem Num.ge {P : Int → Prop} {F : Int} (h : Num P F) {a : Int} (ha : P a) : 0 ≤ a := by
  rcases Int.lt_or_le a 0 with e | e
  · exact absurd ha (h.neg a e)
  · exact e
theorem Num.unique {P : Int → Prop} {F F' : Int} (h : Num P F) (h' : Num P F') : F = F' := by
  rcases Int.lt_trichotomy F F' with e | e | e
  · exact absurd (h.far _ e) h'.gap
  · exact e
  · exact absurd (h'.far _ e) h.gap
def Glu (A B : Int → Prop) (x y z : Int) : Prop := ∃ a b, A a ∧ B b ∧ z = x * a + y * b
def Sym (P : Int → Prop) (F : Int) : Prop := ∀ z, P z ∨ P (F - z)
structure Cop (x y : Int) : Prop where
  hx : 1 ≤ x
  hy : 1 ≤ y
  bez : ∃ u v, x * u + y * v = 1
theorem Cop.swap {x y : Int} (h : Cop x y) : Cop y x := ⟨h.hy, h.hx, by obtain ⟨u, v, e⟩ := h.bez; exact ⟨v, u, by omega⟩⟩
/-- Two ways to write a number differ by a shift. -/
theorem Cop.shift {x y : Int} (h : Cop x y) {a b a' b' : Int} (e : x * a + y * b = x * a' + y * b') : ∃ t, a' = a + y * t ∧ b' = b - x * t := by
  obtain ⟨u, v, hb⟩ := h.bez
  have h1 : a' - a = y * (u * (b - b') + v * (a' - a)) := by grind
  generalize ht : u * (b - b') + v * (a' - a) = t at *
  have h2 : y * (b - b') = y * (x * t) := by grind
  have h3 := Int.eq_of_mul_eq_mul_left (show y ≠ 0 by have := h.hy; omega) h2
  exact ⟨t, by omega, by omega⟩
theorem glu_swap {A B : Int → Prop} {x y z : Int} : Glu A B x y z ↔ Glu B A y x z := by
  constructor
  · rintro ⟨a, b, ha, hb, e⟩; exact ⟨b, a, hb, ha, by omega⟩
  · rintro ⟨a, b, ha, hb, e⟩; exact ⟨b, a, hb, ha, by omega⟩
theorem glu_num {A B : Int → Prop} {FA FB x y : Int} (hA : Num A FA) (hB : Num B FB) (hc : Cop x y) (hyA : A y) (hxB : B x) : Num (Glu A B x y) (x * FA + y * FB + x * y) where
  neg z hz := by
    rintro ⟨a, b, ha, hb, rfl⟩
    have h1 := Int.mul_nonneg (show 0 ≤ x by have := hc.hx; omega) (hA.ge ha)
    have h2 := Int.mul_nonneg (show 0 ≤ y by have := hc.hy; omega) (hB.ge hb)
    omega
  plus := by
    rintro _ _ ⟨a, b, ha, hb, rfl⟩ ⟨c, d, hc, hd, rfl⟩
    exact ⟨a + c, b + d, hA.plus _ _ ha hc, hB.plus _ _ hb hd, by grind⟩
  zero := ⟨0, 0, hA.zero, hB.zero, by simp⟩
  gap := by
    rintro ⟨a, b, ha, hb, e⟩
    obtain ⟨t, rfl, rfl⟩ := hc.shift (a := FA) (b := FB + x) (a' := a) (b' := b) (by grind)
    rcases Int.lt_or_le 0 t with h | h
    · have := hB.up hxB hb (t := t - 1) (by omega)
      rw [show FB + x - x * t + x * (t - 1) = FB by grind] at this
      exact hB.gap this
    · have := hA.up hyA ha (t := -t) (by omega)
      rw [show FA + y * t + y * -t = FA by grind] at this
      exact hA.gap this
  far z hz := by
    obtain ⟨u, v, hb⟩ := hc.bez
    have hy := hc.hy
    have hm := Int.emod_nonneg (u * z - FA - 1) (show y ≠ 0 by omega)
    have hl := Int.emod_lt_of_pos (u * z - FA - 1) (show 0 < y by omega)
    have hd := Int.mul_ediv_add_emod (u * z - FA - 1) y
    generalize (u * z - FA - 1) % y = m at *
    generalize (u * z - FA - 1) / y = q at *
    have ha : FA < u * z - y * q := by omega
    have hle : u * z - y * q ≤ FA + y := by omega
    have hz2 : z = x * (u * z - y * q) + y * (v * z + x * q) := by grind
    refine ⟨_, _, hA.far _ ha, hB.far _ ?_, hz2⟩
    have h5 := Int.mul_le_mul_of_nonneg_left hle (show 0 ≤ x by have := hc.hx; omega)
    generalize u * z - y * q = a at *
    generalize v * z + x * q = b at *
    have h6 : y * FB < y * b := by grind
    exact Int.lt_of_mul_lt_mul_left h6 (by omega)
theorem down {A : Int → Prop} {FA y : Int} (hA : Num A FA) (hy : 1 ≤ y) : ∀ (n : Nat) (a : Int), a ≤ (n : Int) → A a → ∃ t, 0 ≤ t ∧ A (a - y * t) ∧ ¬ A (a - y * t - y)
  | n, a, hn, ha => by
    by_cases h : A (a - y)
    · have h0 := hA.ge h
      obtain ⟨t, h1, h2, h3⟩ := down hA hy (n - 1) (a - y) (by omega) h
      exact ⟨t + 1, by omega, by rw [show a - y * (t + 1) = a - y - y * t by grind]; exact h2, by rw [show a - y * (t + 1) - y = a - y - y * t - y by grind]; exact h3⟩
    · exact ⟨0, by omega, by rw [Int.mul_zero, Int.sub_zero]; exact ha, by rw [Int.mul_zero, Int.sub_zero]; exact h⟩
  termination_by n => n
  decreasing_by omega
theorem glu_sym {A B : Int → Prop} {FA FB x y : Int} (hA : Num A FA) (_ : Num B FB) (hc : Cop x y) (sA : Sym A FA) (sB : Sym B FB) : Sym (Glu A B x y) (x * FA + y * FB + x * y) := by
  intro z
  obtain ⟨u, v, hb⟩ := hc.bez
  have hy := hc.hy
  -- a way with its first part a member and as little as may be
  have h0 : ∃ a b, A a ∧ ¬ A (a - y) ∧ z = x * a + y * b := by
    obtain ⟨q, hq⟩ : ∃ q : Int, FA < u * z + y * q := by
      refine ⟨(FA - u * z).natAbs + 1, ?_⟩
      have h1 := Int.mul_le_mul_of_nonneg_right hy (show 0 ≤ ((FA - u * z).natAbs : Int) + 1 by omega)
      omega
    have ha := hA.far _ hq
    have hge := hA.ge ha
    obtain ⟨t, -, h1, h2⟩ := down hA hy (u * z + y * q).toNat _ (by omega) ha
    exact ⟨_, v * z - x * (q - t), h1, h2, by grind⟩
  obtain ⟨a, b, h1, h2, rfl⟩ := h0
  rcases sB b with h | h
  · exact .inl ⟨a, b, h1, h, rfl⟩
  · right
    have h3 := (sA (a - y)).resolve_left h2
    exact ⟨_, _, h3, h, by grind⟩
theorem glu_left {A B : Int → Prop} {FA FB x y : Int} (hA : Num A FA) (hB : Num B FB) (hc : Cop x y) (hyA : A y) (hxB : B x) (h : Sym (Glu A B x y) (x * FA + y * FB + x * y)) : Sym A FA := by
  intro a
  rcases h (x * a + y * (FB + x)) with ⟨a', b', ha, hb, e⟩ | ⟨a', b', ha, hb, e⟩
  · left
    obtain ⟨t, rfl, rfl⟩ := hc.shift e
    rcases Int.lt_or_le 0 t with ht | ht
    · have := hB.up hxB hb (t := t - 1) (by omega)
      rw [show FB + x - x * t + x * (t - 1) = FB by grind] at this
      exact absurd this hB.gap
    · have := hA.up hyA ha (t := -t) (by omega)
      rw [show a + y * t + y * -t = a by grind] at this
      exact this
  · right
    obtain ⟨t, rfl, rfl⟩ := hc.shift (a := FA - a) (b := 0) (a' := a') (b' := b') (by grind)
    rcases Int.lt_or_le 0 t with ht | ht
    · exfalso
      refine hB.neg _ ?_ hb
      have := Int.mul_pos (show 0 < x by have := hc.hx; omega) ht
      omega
    · have := hA.up hyA ha (t := -t) (by omega)
      rw [show FA - a + y * t + y * -t = FA - a by grind] at this
      exact this
theorem glu_iff {A B : Int → Prop} {FA FB x y : Int} (hA : Num A FA) (hB : Num B FB) (hc : Cop x y) (hyA : A y) (hxB : B x) : Sym (Glu A B x y) (x * FA + y * FB + x * y) ↔ Sym A FA ∧ Sym B FB := by
  constructor
  · intro h
    refine ⟨glu_left hA hB hc hyA hxB h, glu_left hB hA hc.swap hxB hyA fun z => ?_⟩
    have := h z
    rw [show y * FB + x * FA + y * x = x * FA + y * FB + x * y by grind]
    exact this.imp glu_swap.1 glu_swap.1
  · exact fun ⟨h1, h2⟩ => glu_sym hA hB hc h1 h2

/-! ### Lists -/
def InS (G : List Int) (z : Int) : Prop := 0 ≤ z ∧ IsSum G z.toNat
theorem inS_nat {G : List Int} {n : Nat} : InS G (n : Int) ↔ IsSum G n := by unfold InS; rw [Int.toNat_natCast]; exact ⟨fun h => h.2, fun h => ⟨by omega, h⟩⟩
theorem inS_open {G : List Int} {z : Int} (h : InS G z) : ∃ n : Nat, z = (n : Int) ∧ IsSum G n := ⟨z.toNat, by have := h.1; omega, h.2⟩
theorem inS_hasN {G : List Int} (hs : isSgB G = true) (z : Int) : hasN G z = true ↔ InS G z := by
  rcases Int.lt_or_le z 0 with h | h
  · rw [hasN_neg h]; exact ⟨fun e => (by cases e), fun e => (by have := e.1; omega)⟩
  · obtain ⟨n, rfl⟩ := Int.eq_ofNat_of_zero_le h
    exact (by rw [hasN_in hs n, sumB_iff]; exact inS_nat.symm : hasN G (n : Int) = true ↔ InS G (n : Int))
theorem sg_num {G : List Int} (hs : isSgB G = true) : Num (InS G) (frobN G) where
  neg z hz h := by have := h.1; omega
  plus := by
    intro a b ha hb
    obtain ⟨n, rfl, hn⟩ := inS_open ha
    obtain ⟨m, rfl, hm⟩ := inS_open hb
    exact inS_nat.2 (hn.plus hm)
  zero := inS_nat.2 .zero
  gap := by
    intro h
    have hf := frob_cond hs
    obtain ⟨n, e, hn⟩ := inS_open h
    have h0 : sumB G (condNat G - 1) = false := end_gap (by omega)
    rw [show n = condNat G - 1 by omega, ← sumB_iff, h0] at hn
    cases hn
  far z hz := by
    have hf := frob_cond hs
    refine ⟨by omega, sumB_iff.1 (sg_from hs _ (by omega))⟩
theorem sg_sym {G : List Int} (hs : isSgB G = true) : symB G = true ↔ Sym (InS G) (frobN G) := by
  have hf := frob_cond hs
  unfold symB
  rw [hs, Bool.true_and, mirB_iff hs]
  constructor
  · intro h z
    rcases Int.lt_or_le z 0 with h1 | h1
    · exact .inr ((sg_num hs).far _ (by omega))
    · rcases Int.lt_or_le (frobN G) z with h2 | h2
      · exact .inl ((sg_num hs).far _ h2)
      · obtain ⟨n, rfl⟩ := Int.eq_ofNat_of_zero_le h1
        have h2 : (n : Int) ≤ frobN G := h2
        cases e1 : sumB G n
        · cases e2 : sumB G (condNat G - 1 - n)
          · have := h n (by omega) (by unfold bothB; dsimp only; rw [e1, e2]; rfl)
            cases this.1
          · right
            refine ⟨by show 0 ≤ frobN G - (n : Int); omega, ?_⟩
            rw [show (frobN G - (n : Int)).toNat = condNat G - 1 - n by omega]
            exact sumB_iff.1 e2
        · exact .inl (inS_nat.2 (sumB_iff.1 e1))
  · intro h x hx hb
    exfalso
    unfold bothB at hb
    rw [Bool.and_eq_true] at hb
    obtain ⟨b1, b2⟩ := hb
    rcases h (x : Int) with h1 | h1
    · rw [inS_nat, ← sumB_iff] at h1
      dsimp only at b1
      rw [h1] at b1; cases b1
    · obtain ⟨m, e, hm⟩ := inS_open h1
      rw [show m = condNat G - 1 - x by omega, ← sumB_iff] at hm
      dsimp only at b2
      rw [hm] at b2; cases b2
theorem IsSum.right {A B : List Int} {n : Nat} (h : IsSum B n) : IsSum (A ++ B) n := by
  induction h with
  | zero => exact .zero
  | add hg _ ih => exact .add (List.mem_append_right _ hg) ih
theorem IsSum.left {A B : List Int} {n : Nat} (h : IsSum A n) : IsSum (A ++ B) n := by
  induction h with
  | zero => exact .zero
  | add hg _ ih => exact .add (List.mem_append_left _ hg) ih
theorem IsSum.scaled {A : List Int} {n x : Nat} (h : IsSum A n) : IsSum (timesL A x) (x * n) := by
  induction h with
  | zero => rw [Nat.mul_zero]; exact .zero
  | @add n g hg _ ih =>
    rw [Nat.mul_add]
    refine .add ?_ ih
    unfold timesL
    exact List.mem_map.2 ⟨_, hg, by rw [Int.natCast_mul, Int.mul_comm]⟩
theorem glu_sums {A B : List Int} {x y : Nat} (hA : ∀ g ∈ A, 0 ≤ g) (hB : ∀ g ∈ B, 0 ≤ g) (z : Int) : InS (timesL A x ++ timesL B y) z ↔ Glu (InS A) (InS B) x y z := by
  constructor
  · intro h
    obtain ⟨n, rfl, hn⟩ := inS_open h
    clear h
    induction hn with
    | zero => exact ⟨0, 0, inS_nat.2 .zero, inS_nat.2 .zero, by simp⟩
    | @add n g hg _ ih =>
      obtain ⟨a, b, ha, hb, e⟩ := ih
      obtain ⟨p, rfl, hp⟩ := inS_open ha
      obtain ⟨q, rfl, hq⟩ := inS_open hb
      rcases List.mem_append.1 hg with h | h
      · unfold timesL at h
        obtain ⟨c, hc, e2⟩ := List.mem_map.1 h
        obtain ⟨k, rfl⟩ := Int.eq_ofNat_of_zero_le (hA c hc)
        refine ⟨((p + k : Nat) : Int), q, inS_nat.2 (.add hc hp), inS_nat.2 hq, ?_⟩
        have e3 : (k : Int) * (x : Int) = (g : Int) := e2
        rw [Int.natCast_add, Int.natCast_add, ← e3, e]
        grind
      · unfold timesL at h
        obtain ⟨c, hc, e2⟩ := List.mem_map.1 h
        obtain ⟨k, rfl⟩ := Int.eq_ofNat_of_zero_le (hB c hc)
        refine ⟨p, ((q + k : Nat) : Int), inS_nat.2 hp, inS_nat.2 (.add hc hq), ?_⟩
        have e3 : (k : Int) * (y : Int) = (g : Int) := e2
        rw [Int.natCast_add, Int.natCast_add, ← e3, e]
        grind
  · rintro ⟨a, b, ha, hb, rfl⟩
    obtain ⟨p, rfl, hp⟩ := inS_open ha
    obtain ⟨q, rfl, hq⟩ := inS_open hb
    have h := (hp.scaled (x := x)).left (B := timesL B y) |>.plus ((hq.scaled (x := y)).right (A := timesL A x))
    have := inS_nat.2 h
    rw [Int.natCast_add, Int.natCast_mul, Int.natCast_mul] at this
    exact this
theorem cop_of {x y : Int} (hx : 1 ≤ x ∧ x ≤ 60) (hy : 1 ≤ y ∧ y ≤ 60) (h : gcdOf x y = 1) : Cop x y := by
  refine ⟨hx.1, hy.1, ?_⟩
  obtain ⟨m, rfl⟩ := Int.eq_ofNat_of_zero_le (show 0 ≤ x by omega)
  obtain ⟨n, rfl⟩ := Int.eq_ofNat_of_zero_le (show 0 ≤ y by omega)
  obtain ⟨u, v, e⟩ := bezN m n
  have h2 : gcdOf (m : Int) (n : Int) = (Nat.gcd m n : Nat) := by
    have := gcdOf_in (a := (m : Int)) (b := (n : Int)) (small_iff.2 ⟨by omega, by omega⟩) (small_iff.2 ⟨by omega, by omega⟩)
    rw [Int.natAbs_natCast, Int.natAbs_natCast] at this; exact this
  have h3 : gcdOf (m : Int) (n : Int) = 1 := h
  exact ⟨u, v, by omega⟩
theorem sum_pos {G : List Int} (hs : isSgB G = true) : ∀ g ∈ G, 0 ≤ g := fun g hg => by have := sg_pos hs g hg; omega
/-- The gluing. -/
theorem glu_law {A B : List Int} {x y : Int} (h : gluB A B x y = true) : gluN A B x y = frobN (gluL A B x y) ∧ symB (gluL A B x y) = (symB A && symB B) := by
  have hq : gluQ A B x y = true := by
    unfold gluB at h; rw [Bool.and_eq_true] at h; exact h.1
  have hf : fromB (timesL A x ++ timesL B y) = true := by
    unfold gluB at h; rw [Bool.and_eq_true] at h; exact h.2
  have hL : gluL A B x y = fromL (timesL A x ++ timesL B y) := by unfold gluL; rw [if_pos hq]
  have hN : gluN A B x y = x * frobN A + y * frobN B + x * y := by unfold gluN; rw [if_pos h]
  obtain ⟨hsa, hsb, hx, hy, hg⟩ := gluQ_open hq
  have hc := cop_of hx hy hg
  have hyA : InS A y := by
    unfold gluQ at hq
    simp only [Bool.and_eq_true, decide_eq_true_eq] at hq
    exact (inS_hasN hsa y).1 hq.1.2.1.2
  have hxB : InS B x := by
    unfold gluQ at hq
    simp only [Bool.and_eq_true, decide_eq_true_eq] at hq
    exact (inS_hasN hsb x).1 hq.1.1.1.2
  have hsS : isSgB (gluL A B x y) = true := by rw [hL]; exact fromL_isSg hf
  have hok : okG (timesL A x ++ timesL B y) = true := by unfold fromB at hf; rw [Bool.and_eq_true] at hf; exact hf.1
  have hS : ∀ z, InS (gluL A B x y) z ↔ Glu (InS A) (InS B) x y z := fun z => by
    obtain ⟨m, rfl⟩ := Int.eq_ofNat_of_zero_le (show 0 ≤ x by omega)
    obtain ⟨n, rfl⟩ := Int.eq_ofNat_of_zero_le (show 0 ≤ y by omega)
    have h1 := glu_sums (x := m) (y := n) (sum_pos hsa) (sum_pos hsb) z
    refine Iff.trans ?_ h1
    unfold InS
    have h2 : IsSum (gluL A B (m : Int) (n : Int)) z.toNat ↔ IsSum (timesL A (m : Int) ++ timesL B (n : Int)) z.toNat := by
      rw [hL, fromL_yes hf, ← sumB_iff, sumB_minL (okG_pos hok), sumB_iff]
    rw [h2]
  have hP : InS (gluL A B x y) = Glu (InS A) (InS B) x y := funext fun z => propext (hS z)
  have n1 := sg_num hsS
  have n2 := glu_num (sg_num hsa) (sg_num hsb) hc hyA hxB
  rw [hP] at n1
  have e := n1.unique n2
  refine ⟨by rw [hN, e], ?_⟩
  rw [Bool.eq_iff_iff, Bool.and_eq_true, sg_sym hsS, sg_sym hsa, sg_sym hsb, hP, e]
  exact glu_iff (sg_num hsa) (sg_num hsb) hc hyA hxB
/-! ### Telescopic lists -/
theorem one_num : Num (InS [1]) (-1) := by
  refine ⟨fun z hz h => by have := h.1; omega, fun a b ha hb => ?_, inS_nat.2 .zero, fun h => by have := h.1; omega, fun z hz => ?_⟩
  · obtain ⟨n, rfl, hn⟩ := inS_open ha
    obtain ⟨m, rfl, hm⟩ := inS_open hb
    exact inS_nat.2 (hn.plus hm)
  · refine ⟨by omega, ?_⟩
    generalize z.toNat = n
    induction n with
    | zero => exact .zero
    | succ n ih => exact .add (g := 1) (by simp) ih
theorem one_sym : Sym (InS [1]) (-1) := fun z => by
  rcases Int.lt_or_le z 0 with h | h
  · exact .inr (one_num.far _ (by omega))
  · exact .inl (one_num.far _ (by omega))
theorem gcdOf_dvdG {a b : Int} (ha : small a = true) (hb : small b = true) : gcdOf a b ∣ a ∧ gcdOf a b ∣ b := by
  rw [gcdOf_in ha hb]
  exact ⟨Int.dvd_natAbs.1 (Int.natCast_dvd_natCast.2 (Nat.gcd_dvd_left _ _)), Int.dvd_natAbs.1 (Int.natCast_dvd_natCast.2 (Nat.gcd_dvd_right _ _))⟩
theorem gcd_facts {d n : Int} (hd : 1 ≤ d ∧ d ≤ 60) (hn : 1 ≤ n ∧ n ≤ 60) : ∃ e x y u v : Int, gcdOf d n = e ∧ 1 ≤ e ∧ 1 ≤ x ∧ 1 ≤ y ∧ d = e * x ∧ n = e * y ∧ x * u + y * v = 1 := by
  have hsd := small_iff.2 (show -1000000 ≤ d ∧ d ≤ 1000000 by omega)
  have hsn := small_iff.2 (show -1000000 ≤ n ∧ n ≤ 1000000 by omega)
  obtain ⟨h1, h2⟩ := gcdOf_dvdG hsd hsn
  obtain ⟨x, hx⟩ := h1
  obtain ⟨y, hy⟩ := h2
  have hb := gcdOf_bounds d n
  have hg : gcdOf d n ≠ 0 := by intro e; rw [e, Int.zero_mul] at hx; omega
  obtain ⟨p, rfl⟩ := Int.eq_ofNat_of_zero_le (show 0 ≤ d by omega)
  obtain ⟨q, rfl⟩ := Int.eq_ofNat_of_zero_le (show 0 ≤ n by omega)
  obtain ⟨u, v, e⟩ := bezN p q
  have h3 := gcdOf_in hsd hsn
  have h4 : gcdOf (Int.ofNat p) (Int.ofNat q) = (Nat.gcd p q : Nat) := h3
  have h5 : (p : Int) * u + (q : Int) * v = gcdOf (Int.ofNat p) (Int.ofNat q) := by rw [h4]; exact e
  have hx' : (p : Int) = gcdOf (Int.ofNat p) (Int.ofNat q) * x := hx
  have hy' : (q : Int) = gcdOf (Int.ofNat p) (Int.ofNat q) * y := hy
  have hp : 1 ≤ (p : Int) := hd.1
  have hq : 1 ≤ (q : Int) := hn.1
  clear hx hy h3 h4 hsd hsn hd hn e
  generalize gcdOf (Int.ofNat p) (Int.ofNat q) = g at *
  have hg1 : 1 ≤ g := by omega
  refine ⟨g, x, y, u, v, rfl, hg1, ?_, ?_, hx', hy', ?_⟩
  · rcases Int.lt_or_le 0 x with h | h
    · exact h
    · have := Int.mul_le_mul_of_nonneg_left h (show 0 ≤ g by omega)
      rw [Int.mul_zero] at this
      omega
  · rcases Int.lt_or_le 0 y with h | h
    · exact h
    · have := Int.mul_le_mul_of_nonneg_left h (show 0 ≤ g by omega)
      rw [Int.mul_zero] at this
      omega
  · exact Int.eq_of_mul_eq_mul_left (a := g) (by omega) (by grind)
theorem over_all {L : List Int} {d e x : Int} (he : 1 ≤ e) (hd : d = e * x) (h1 : 1 ≤ d) (h : ∀ z ∈ L, d ∣ z) : overL L e = timesL (overL L d) x := by
  unfold overL timesL
  rw [List.map_map]
  refine List.map_congr_left fun z hz => ?_
  obtain ⟨c, rfl⟩ := h z hz
  show (d * c) / e = (d * c) / d * x
  rw [Int.mul_ediv_cancel_left _ (show d ≠ 0 by omega), hd, show e * x * c = e * (x * c) by grind, Int.mul_ediv_cancel_left _ (show e ≠ 0 by omega), Int.mul_comm]
theorem gcdL_div {L : List Int} (h : okG L = true) {k : Nat} (h1 : 1 ≤ k) (hk : k ≤ L.length) : ∀ z ∈ L.take k, gcdL (L.take k) ∣ z := by
  intro z hz
  have := gcdL_dvd (okG_iff.1 (take_ok h h1 hk)).1 z hz
  exact Int.natAbs_dvd_natAbs.1 this
structure TeleK (L : List Int) (k : Nat) (F : Int) : Prop where
  num : Num (InS (overL (L.take k) (gcdL (L.take k)))) F
  sym : Sym (InS (overL (L.take k) (gcdL (L.take k)))) F
  eq : gcdL (L.take k) * F = teleS L k - (L.take k).sum
theorem tele_one {L : List Int} (h : okG L = true) (hl : 1 ≤ L.length) : TeleK L 1 (-1) := by
  cases hL : L with
  | nil => rw [hL] at hl; simp at hl
  | cons n t =>
    have hn := get_ok h (k := 0) (by omega)
    simp only [hL, List.getElem_cons_zero] at hn
    have hg : gcdL ([n] : List Int) = n := by
      unfold gcdL
      show gcdOf 0 n = n
      obtain ⟨q, rfl⟩ := Int.eq_ofNat_of_zero_le (show 0 ≤ n by omega)
      have := gcdOf_in (a := 0) (b := (q : Int)) (small_iff.2 ⟨by omega, by omega⟩) (small_iff.2 ⟨by omega, by have := hn.2; show (q : Int) ≤ 1000000; have h2 : (q : Int) ≤ 60 := hn.2; omega⟩)
      rw [Int.natAbs_zero, Int.natAbs_natCast, Nat.gcd_zero_left] at this
      exact this
    have ho : overL ((n :: t).take 1) (gcdL ((n :: t).take 1)) = [1] := by
      show overL [n] (gcdL [n]) = [1]
      rw [hg]; unfold overL
      rw [List.map_singleton, Int.ediv_self (by omega)]
    refine ⟨by rw [ho]; exact one_num, by rw [ho]; exact one_sym, ?_⟩
    show gcdL [n] * -1 = teleS (n :: t) 1 - [n].sum
    rw [hg]
    have : teleS (n :: t) 1 = 0 := by unfold teleS; unfold teleS; simp
    rw [this]; simp
theorem tele_next {L : List Int} (h : okG L = true) {k : Nat} (h1 : 1 ≤ k) (hk : k < L.length) (ha : teleAt L k = true) {F : Int} (hT : TeleK L k F) : ∃ F', TeleK L (k + 1) F' := by
  have hd := take_gcd h h1 (show k ≤ L.length by omega)
  have hn := get_ok h hk
  obtain ⟨e, x, y, u, v, he, he1, hx1, hy1, hdx, hny, hb⟩ := gcd_facts hd hn
  have hgk : gcdL (L.take (k + 1)) = e := by rw [gcdL_take L k hk, he]
  have hdiv := gcdL_div h h1 (show k ≤ L.length by omega)
  have hov : overL (L.take (k + 1)) e = timesL (overL (L.take k) (gcdL (L.take k))) x ++ timesL [1] y := by
    have : L.take (k + 1) = L.take k ++ [L[k]] := by rw [List.take_add_one, List.getElem?_eq_getElem hk]; rfl
    rw [this, ← over_all he1 hdx hd.1 hdiv]
    unfold overL timesL
    rw [List.map_append, List.map_singleton, List.map_singleton, Int.one_mul]
    congr 2
    rw [hny, Int.mul_ediv_cancel_left _ (show e ≠ 0 by omega)]
  have hyA : InS (overL (L.take k) (gcdL (L.take k))) y := by
    unfold teleAt generatesB at ha
    rw [Bool.and_eq_true, Bool.and_eq_true, getD_at hk, hgk, hny, Int.mul_ediv_cancel_left _ (show e ≠ 0 by omega)] at ha
    exact ⟨by omega, sumB_iff.1 ha.2⟩
  have hc : Cop x y := ⟨hx1, hy1, u, v, hb⟩
  have hpos : ∀ g ∈ overL (L.take k) (gcdL (L.take k)), 0 ≤ g := by
    intro g hg
    unfold overL at hg
    obtain ⟨z, hz, rfl⟩ := List.mem_map.1 hg
    have := (okG_iff.1 h).1 z (List.mem_of_mem_take hz)
    exact Int.ediv_nonneg (by omega) (by omega)
  have hP : InS (overL (L.take (k + 1)) (gcdL (L.take (k + 1)))) = Glu (InS (overL (L.take k) (gcdL (L.take k)))) (InS [1]) x y := by
    rw [hgk, hov]
    obtain ⟨m, rfl⟩ := Int.eq_ofNat_of_zero_le (show 0 ≤ x by omega)
    obtain ⟨n, rfl⟩ := Int.eq_ofNat_of_zero_le (show 0 ≤ y by omega)
    exact funext fun z => propext (glu_sums hpos (by intro g hg; rw [List.mem_singleton] at hg; omega) z)
  have hxB : InS [1] x := one_num.far _ (by omega)
  refine ⟨x * F + y * (-1) + x * y, by rw [hP]; exact glu_num hT.num one_num hc hyA hxB, by rw [hP]; exact glu_sym hT.num one_num hc hT.sym one_sym, ?_⟩
  have h4 := hT.eq
  have hs : (L.take (k + 1)).sum = (L.take k).sum + L[k] := by rw [List.take_add_one, List.getElem?_eq_getElem hk, List.sum_append]; simp
  have ht : teleS L (k + 1) = teleS L k + L[k] * x := by
    have : teleT L k = L[k] * x := by
      unfold teleT
      rw [getD_at hk, hgk, hdx, show L[k] * (e * x) = e * (L[k] * x) by grind, Int.mul_ediv_cancel_left _ (show e ≠ 0 by omega)]
    show teleS L k + (if k = 0 then 0 else teleT L k) = _
    rw [if_neg (by omega), this]
  rw [hgk, hs, ht]
  rw [hdx] at h4
  generalize L[k] = n at *
  generalize teleS L k = s at *
  generalize (L.take k).sum = r at *
  grind
theorem tele_all {L : List Int} (h : teleB L = true) : ∀ k, 1 ≤ k → k ≤ L.length → ∃ F, TeleK L k F := by
  obtain ⟨hok, -⟩ := tele_ok h
  have hU : teleU L L.length = true := by unfold teleB at h; rw [Bool.and_eq_true] at h; exact h.2
  intro k h1
  induction k with
  | zero => omega
  | succ k ih =>
    intro hk
    by_cases e : k = 0
    · subst e; exact ⟨-1, tele_one hok (by omega)⟩
    · obtain ⟨F, hF⟩ := ih (by omega) (by omega)
      have ha : teleAt L k = true := by
        rcases Bool.eq_false_or_eq_true (teleAt L k) with e2 | e2
        · exact e2
        · rw [teleU_no (by omega) (by omega) e2] at hU; cases hU
      exact tele_next hok (by omega) (by omega) ha hF
theorem tele_law {L : List Int} (h : teleB L = true) (hf : fromB L = true) : teleN L = frobN (fromL L) ∧ symB (fromL L) = true := by
  obtain ⟨hok, hg⟩ := tele_ok h
  have hl : 0 < L.length := (okG_iff.1 hok).2.1
  obtain ⟨F, hF⟩ := tele_all h L.length (by omega) (Nat.le_refl _)
  have hs := fromL_isSg hf
  have ho : overL (L.take L.length) (gcdL (L.take L.length)) = L := by
    rw [List.take_length, hg]; unfold overL
    simp
  have hP : InS (fromL L) = InS L := funext fun z => propext (by unfold InS; rw [fromL_yes hf, ← sumB_iff, sumB_minL (okG_pos hok), sumB_iff])
  have n1 := sg_num hs
  have n2 := hF.num
  rw [ho] at n2
  rw [hP] at n1
  have e := n1.unique n2
  have h3 := hF.eq
  rw [List.take_length, hg, Int.one_mul] at h3
  refine ⟨?_, ?_⟩
  · rw [e, h3]; unfold teleN; rw [if_pos h]
  · rw [sg_sym hs, hP, e]
    have := hF.sym
    rw [ho] at this
    exact this
end Go.Proofs.YtipfonpaaebjjaaGreat
