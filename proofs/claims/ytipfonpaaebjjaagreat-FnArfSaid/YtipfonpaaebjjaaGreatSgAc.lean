/-
  CHAPTER 24 WITHOUT THE PROGRAM: the Arf closure. (Own work.)
-/
import Derived.Test.YtipfonpaaebjjaaGreatSgAr
namespace Go.Proofs.YtipfonpaaebjjaaGreat
open Go Go.RowKit

inductive ArfIn (G : List Int) : Nat → Prop
  | base {n : Nat} : IsSum G n → ArfIn G n
  | step {x y z : Nat} : ArfIn G x → ArfIn G y → ArfIn G z → z ≤ y → y ≤ x → ArfIn G (x + y - z)
theorem ArfIn.plus {G : List Int} {a b : Nat} (ha : ArfIn G a) (hb : ArfIn G b) : ArfIn G (a + b) := by
  have h0 : ArfIn G 0 := .base .zero
  rcases Nat.le_total b a with h | h
  · exact ArfIn.step ha hb h0 (Nat.zero_le _) h
  · have := ArfIn.step hb ha h0 (Nat.zero_le _) h
    rw [Nat.add_comm a b]; exact this
theorem ArfIn.times {G : List Int} {a : Nat} (ha : ArfIn G a) : ∀ k, ArfIn G (k * a)
  | 0 => by rw [Nat.zero_mul]; exact .base .zero
  | k + 1 => by rw [Nat.succ_mul]; exact (ArfIn.times ha k).plus ha
open Classical in
noncomputable def arfP (G : List Int) (n : Nat) : Bool := if ArfIn G n then true else false
theorem arfP_iff {G : List Int} {n : Nat} : arfP G n = true ↔ ArfIn G n := by unfold arfP; split <;> simp_all
noncomputable def cloG (G : List Int) : List Int := memK (arfP G) 200
noncomputable def cloB (G : List Int) : Bool := isSgB G && fromGpB (cloG G)
noncomputable def cloL (G : List Int) : List Int := if isSgB G then fromGpL (cloG G) else []
theorem cloL_len (G : List Int) : (cloL G).length ≤ 12 := by
  unfold cloL; split
  · exact fromGpL_len _
  · simp
theorem arf_complete {G : List Int} {c : Nat} {is : Nat → Bool} (h1 : ∀ n, IsSum G n → c ≤ n ∨ is n = true)
    (h2 : ∀ x y z, x < c → y ≤ x → z ≤ y → is x = true → is y = true → is z = true → x + y - z < c → is (x + y - z) = true) : ∀ n, ArfIn G n → c ≤ n ∨ is n = true := by
  intro n h
  induction h with
  | base h => exact h1 _ h
  | @step x y z hx hy hz hzy hyx ihx ihy ihz =>
    by_cases hc : c ≤ x + y - z
    · exact .inl hc
    · right
      have h3 : x < c := by omega
      exact h2 x y z h3 hyx hzy (ihx.resolve_left (by omega)) (ihy.resolve_left (by omega)) (ihz.resolve_left (by omega)) (by omega)
theorem memK_cong {p q : Nat → Bool} {k : Nat} (h : ∀ n, n < k → p n = q n) : memK p k = memK q k := by
  unfold memK upB
  congr 1
  exact List.filter_congr fun n hn => by rw [h n (List.mem_range.1 hn)]

/-! ### A table that grows -/
open Classical in
noncomputable def withT (T : Nat → Bool) (m j : Nat) : Bool := if ∃ k, k * m ≤ j ∧ T (j - k * m) = true then true else false
theorem withT_iff {T : Nat → Bool} {m j : Nat} : withT T m j = true ↔ ∃ k, k * m ≤ j ∧ T (j - k * m) = true := by unfold withT; split <;> simp_all
theorem withT_lo {T : Nat → Bool} {m j : Nat} (h : j < m) : withT T m j = T j := by
  rw [Bool.eq_iff_iff, withT_iff]
  constructor
  · rintro ⟨k, hk, ht⟩
    cases k with
    | zero => simpa using ht
    | succ k => rw [Nat.succ_mul] at hk; omega
  · intro ht
    exact ⟨0, by omega, by simpa using ht⟩
theorem withT_mid {T : Nat → Bool} {m j : Nat} (h : m ≤ j) : withT T m j = (T j || withT T m (j - m)) := by
  rw [Bool.eq_iff_iff, Bool.or_eq_true, withT_iff, withT_iff]
  constructor
  · rintro ⟨k, hk, ht⟩
    cases k with
    | zero => left; simpa using ht
    | succ k =>
      right
      rw [Nat.succ_mul] at hk ht
      exact ⟨k, by omega, by rw [show j - m - k * m = j - (k * m + m) by omega]; exact ht⟩
  · rintro (ht | ⟨k, hk, ht⟩)
    · exact ⟨0, by omega, by simpa using ht⟩
    · exact ⟨k + 1, by rw [Nat.succ_mul]; omega, by rw [Nat.succ_mul, show j - (k * m + m) = j - m - k * m by omega]; exact ht⟩
structure ArfTab (G : List Int) (T : Nat → Bool) : Prop where
  sub : ∀ n, IsSum G n → T n = true
  arf : ∀ n, T n = true → ArfIn G n
theorem ArfTab.start (G : List Int) : ArfTab G (sumB G) := ⟨fun _ h => sumB_iff.2 h, fun _ h => .base (sumB_iff.1 h)⟩
theorem withT_sub {T : Nat → Bool} {m n : Nat} (h : T n = true) : withT T m n = true := withT_iff.2 ⟨0, by omega, by simpa using h⟩
theorem ArfTab.next {G : List Int} {T : Nat → Bool} (h : ArfTab G T) {x y z : Nat} (hx : T x = true) (hy : T y = true) (hz : T z = true) (hzy : z ≤ y) (hyx : y ≤ x) : ArfTab G (withT T (x + y - z)) where
  sub n hn := withT_sub (h.sub n hn)
  arf n hn := by
    obtain ⟨k, hk, ht⟩ := withT_iff.1 hn
    have := (h.arf _ ht).plus ((ArfIn.step (h.arf _ hx) (h.arf _ hy) (h.arf _ hz) hzy hyx).times k)
    rw [Nat.sub_add_cancel hk] at this
    exact this
/-- The numbers below 200 that a table lacks. -/
def lackN (T : Nat → Bool) : Nat := (upB (fun n => !T n) 200).length
theorem withT_less {T : Nat → Bool} {m : Nat} (h0 : T 0 = true) (hm : m < 200) (ht : T m = false) : lackN (withT T m) < lackN T := by
  unfold lackN
  refine upB_less (x := m) (fun n hn => ?_) ?_ ?_ 200 hm
  · rcases Bool.eq_false_or_eq_true (T n) with e | e
    · rw [withT_sub e] at hn; cases hn
    · rw [e]; rfl
  · have : withT T m m = true := withT_iff.2 ⟨1, by omega, by rw [Nat.one_mul, Nat.sub_self]; exact h0⟩
    rw [this]; rfl
  · rw [ht]; rfl
/-! ### What is marked below the conductor -/
structure ArfSt (G : List Int) (c : Nat) (is : Nat → Bool) : Prop where
  sub : ∀ n, n < c → IsSum G n → is n = true
  arf : ∀ n, n < c → is n = true → ArfIn G n
theorem ArfSt.put {G : List Int} {c : Nat} {is : Nat → Bool} (h : ArfSt G c is) {x y z : Nat} (hxc : x < c) (hzy : z ≤ y) (hyx : y ≤ x) (hx : is x = true) (hy : is y = true) (hz : is z = true) : ArfSt G c (fun j => if j = x + y - z then true else is j) where
  sub n hn hs := by
    show (if n = x + y - z then true else is n) = true
    split
    · rfl
    · exact h.sub n hn hs
  arf n hn hs := by
    have hs : (if n = x + y - z then true else is n) = true := hs
    split at hs
    · next e => rw [e]; exact .step (h.arf x hxc hx) (h.arf y (by omega) hy) (h.arf z (by omega) hz) hzy hyx
    · exact h.arf n hn hs
def lackC (is : Nat → Bool) (c : Nat) : Nat := (upB (fun n => !is n) c).length
theorem put_less {is : Nat → Bool} {c m : Nat} (hm : m < c) (h : is m = false) : lackC (fun j => if j = m then true else is j) c < lackC is c := by
  unfold lackC
  refine upB_less (x := m) (fun n hn => ?_) (by simp) (by rw [h]; rfl) c hm
  by_cases e : n = m
  · subst e; simp at hn
  · simpa [e] using hn
theorem arf_done {G : List Int} (hs : isSgB G = true) {is : Nat → Bool} (h : ArfSt G (condNat G) is)
    (h2 : ∀ x y z, x < condNat G → y ≤ x → z ≤ y → is x = true → is y = true → is z = true → x + y - z < condNat G → is (x + y - z) = true) :
    (upB (fun n => decide (1 ≤ n) && !is n) (condNat G)).map Int.ofNat = cloG G := by
  have hsg : ∀ n, condNat G ≤ n → ArfIn G n := fun n hn => .base (sumB_iff.1 (sg_from hs n hn))
  have hin : ∀ n, n < condNat G → is n = arfP G n := fun n hn => by
    rw [Bool.eq_iff_iff, arfP_iff]
    constructor
    · exact h.arf n hn
    · intro ha
      rcases arf_complete (G := G) (c := condNat G) (is := is) (fun m hm => by
        rcases Nat.lt_or_ge m (condNat G) with e | e
        · exact .inr (h.sub m e hm)
        · exact .inl e) h2 n ha with e | e
      · omega
      · exact e
  unfold cloG memK
  congr 1
  have hc := condNat_le G
  obtain ⟨r, hr⟩ : ∃ r, 200 = condNat G + r := ⟨200 - condNat G, by omega⟩
  have e1 : upB (fun n => !arfP G n) 200 = upB (fun n => !arfP G n) (condNat G) := upB_not_from (p := arfP G) (fun n hn => arfP_iff.2 (hsg n hn)) hc
  rw [e1]
  unfold upB
  refine List.filter_congr fun n hn => ?_
  rw [hin n (List.mem_range.1 hn)]
  cases n with
  | zero => rw [show arfP G 0 = true from arfP_iff.2 (.base .zero)]; rfl
  | succ n => simp
/-! ### A pass through all triples -/
structure PassA (is is2 : Nat → Bool) (ch : Bool) (c x y z : Nat) : Prop where
  hit : ch = true → lackC is2 c < lackC is c
  idle : ch = false → is2 = is ∧ ∀ a b d, a < c → b ≤ a → d ≤ b → (a < x ∨ (a = x ∧ (b < y ∨ (b = y ∧ d < z)))) → is a = true → is b = true → is d = true → a + b - d < c → is (a + b - d) = true
theorem PassA.start (is : Nat → Bool) (c : Nat) : PassA is is false c 0 0 0 where
  hit h := by cases h
  idle _ := ⟨rfl, fun a b d _ _ _ h => by omega⟩
theorem PassA.zNext {is is2 : Nat → Bool} {ch : Bool} {c x y z : Nat} (h : PassA is is2 ch c x y z) (ht : is2 z = true → x + y - z < c → is2 (x + y - z) = true) : PassA is is2 ch c x y (z + 1) where
  hit := h.hit
  idle e := by
    obtain ⟨e1, h2⟩ := h.idle e
    refine ⟨e1, fun a b d ha hb hd ho ia ib id hn => ?_⟩
    by_cases hh : a = x ∧ b = y ∧ d = z
    · obtain ⟨rfl, rfl, rfl⟩ := hh
      rw [← e1] at id ⊢
      exact ht id hn
    · exact h2 a b d ha hb hd (by omega) ia ib id hn
theorem PassA.put {is is2 : Nat → Bool} {ch : Bool} {c x y z m : Nat} (h : PassA is is2 ch c x y z) (hm : m < c) (hf : is2 m = false) (x' y' z' : Nat) : PassA is (fun j => if j = m then true else is2 j) true c x' y' z' where
  hit _ := by
    have h1 := put_less hm hf
    have h2 : lackC is2 c ≤ lackC is c := by
      cases ch
      · rw [(h.idle rfl).1]; exact Nat.le_refl _
      · exact Nat.le_of_lt (h.hit rfl)
    omega
  idle e := by cases e
theorem PassA.yNext {is is2 : Nat → Bool} {ch : Bool} {c x y z : Nat} (h : PassA is is2 ch c x y z) (hz : z = y + 1 ∨ is2 y = false) : PassA is is2 ch c x (y + 1) 0 where
  hit := h.hit
  idle e := by
    obtain ⟨e1, h2⟩ := h.idle e
    refine ⟨e1, fun a b d ha hb hd ho ia ib id hn => ?_⟩
    by_cases hh : a = x ∧ b = y
    · obtain ⟨rfl, rfl⟩ := hh
      rcases hz with rfl | hz
      · exact h2 a b d ha hb hd (by omega) ia ib id hn
      · rw [e1] at hz; rw [hz] at ib; cases ib
    · exact h2 a b d ha hb hd (by omega) ia ib id hn
theorem PassA.xNext {is is2 : Nat → Bool} {ch : Bool} {c x y : Nat} (h : PassA is is2 ch c x y 0) (hy : y = x + 1 ∨ is2 x = false) : PassA is is2 ch c (x + 1) 0 0 where
  hit := h.hit
  idle e := by
    obtain ⟨e1, h2⟩ := h.idle e
    refine ⟨e1, fun a b d ha hb hd ho ia ib id hn => ?_⟩
    by_cases hh : a = x
    · subst hh
      rcases hy with rfl | hy
      · exact h2 a b d ha hb hd (by omega) ia ib id hn
      · rw [e1] at hy; rw [hy] at ia; cases ia
    · exact h2 a b d ha hb hd (by omega) ia ib id hn
theorem PassA.less {is is2 : Nat → Bool} {ch : Bool} {c x : Nat} (h : PassA is is2 ch c x 0 0) : 2 * lackC is2 c + (if ch then 1 else 0) < 2 * lackC is c + 1 := by
  cases ch
  · rw [(h.idle rfl).1]; simp
  · have := h.hit rfl
    simp; omega
end Go.Proofs.YtipfonpaaebjjaaGreat
