/-
  PLAIN LEMMAS on numerical semigroups: sums of generators, the common divisor, the bound behind which every multiple is a sum; generators that are sums of others. No program in this text.
-/
import Derived.Test.YtdjjagpecbflnaaGreatDoorCh2
namespace Go.Proofs.YtdjjagpecbflnaaGreatDoor
open Go

/-- n is a sum of numbers of G, each any number of times. -/
inductive IsSum (G : List Int) : Nat → Prop
  | zero : IsSum G 0
  | add {n g : Nat} (hg : (g : Int) ∈ G) (h : IsSum G n) : IsSum G (n + g)

theorem IsSum.plus {G : List Int} {a b : Nat} (ha : IsSum G a) (hb : IsSum G b) : IsSum G (a + b) := by
  induction hb with
  | zero => exact ha
  | add hg _ ih => rw [← Nat.add_assoc]; exact .add hg ih
theorem IsSum.times {G : List Int} {a : Nat} (ha : IsSum G a) (k : Nat) : IsSum G (k * a) := by
  induction k with
  | zero => rw [Nat.zero_mul]; exact .zero
  | succ k ih => rw [Nat.succ_mul]; exact ih.plus ha
theorem IsSum.gen {G : List Int} {g : Nat} (hg : (g : Int) ∈ G) : IsSum G g := by have := IsSum.add hg (IsSum.zero (G := G)); rwa [Nat.zero_add] at this
theorem IsSum.mono {G H : List Int} (h : ∀ x ∈ G, x ∈ H) {n : Nat} (hn : IsSum G n) : IsSum H n := by
  induction hn with
  | zero => exact .zero
  | add hg _ ih => exact .add (h _ hg) ih

/-- Numbers that can generate: each at least 1. -/
def Pos (G : List Int) : Prop := ∀ x ∈ G, 1 ≤ x

theorem isSum_step {G : List Int} {n : Nat} (hn : 1 ≤ n) : IsSum G n ↔ ∃ g : Nat, (g : Int) ∈ G ∧ g ≤ n ∧ IsSum G (n - g) := by
  constructor
  · intro h
    cases h with
    | zero => omega
    | @add m g hg h =>
      refine ⟨g, hg, by omega, ?_⟩
      have e : m + g - g = m := by omega
      rw [e]; exact h
  · rintro ⟨g, hg, hle, h⟩
    have e : n = (n - g) + g := by omega
    rw [e]
    exact .add hg h
theorem isSum_nil {n : Nat} (h : IsSum [] n) : n = 0 := by
  cases h with
  | zero => rfl
  | add hg _ => simp at hg
/-- A sum that does not reach x uses smaller numbers alone. -/
theorem isSum_less {G : List Int} {n : Nat} {x : Int} (h : IsSum G n) (hx : (n : Int) < x) : IsSum (G.filter fun y => decide (y < x)) n := by
  induction h with
  | zero => exact .zero
  | @add m g hg _ ih =>
    refine .add (List.mem_filter.2 ⟨hg, by simp; omega⟩) (ih (by omega))

open Classical in
noncomputable def sumB (G : List Int) (n : Nat) : Bool := if IsSum G n then true else false
theorem sumB_iff {G : List Int} {n : Nat} : sumB G n = true ↔ IsSum G n := by
  unfold sumB; split <;> simp_all
theorem sumB_false {G : List Int} {n : Nat} : sumB G n = false ↔ ¬ IsSum G n := by
  unfold sumB; split <;> simp_all
theorem sumB_zero (G : List Int) : sumB G 0 = true := sumB_iff.2 .zero
theorem sumB_congr {G H : List Int} (h : ∀ x, x ∈ G ↔ x ∈ H) (n : Nat) : sumB G n = sumB H n := by
  rw [Bool.eq_iff_iff, sumB_iff, sumB_iff]
  exact ⟨IsSum.mono fun x hx => (h x).1 hx, IsSum.mono fun x hx => (h x).2 hx⟩

/-! ### The common divisor -/
def dvd_all (d : Nat) (G : List Int) : Prop := ∀ g : Nat, (g : Int) ∈ G → d ∣ g
theorem isSum_dvd {G : List Int} {d n : Nat} (hd : dvd_all d G) (h : IsSum G n) : d ∣ n := by
  induction h with
  | zero => exact Nat.dvd_zero d
  | add hg _ ih => exact Nat.dvd_add ih (hd _ hg)

/-! ### Two of m + 1 numbers below m are equal -/
theorem pigeon : ∀ (m : Nat) (f : Nat → Nat), (∀ i, i ≤ m → f i < m) → ∃ i j, i < j ∧ j ≤ m ∧ f i = f j
  | 0, f, h => absurd (h 0 (Nat.le_refl _)) (by omega)
  | m + 1, f, h => by
    by_cases hv : ∃ i, i ≤ m ∧ f i = f (m + 1)
    · obtain ⟨i, hi, e⟩ := hv
      exact ⟨i, m + 1, by omega, Nat.le_refl _, e⟩
    · have hno : ∀ i, i ≤ m → f i ≠ f (m + 1) := fun i hi e => hv ⟨i, hi, e⟩
      have hvm := h (m + 1) (Nat.le_refl _)
      obtain ⟨i, j, hij, hj, e⟩ := pigeon m (fun i => if f i = m then f (m + 1) else f i) (fun i hi => by
        have h1 := h i (by omega)
        have h2 := hno i hi
        show (if f i = m then f (m + 1) else f i) < m
        split <;> omega)
      refine ⟨i, j, hij, by omega, ?_⟩
      have h1 := hno i (by omega)
      have h2 := hno j hj
      split at e <;> split at e <;> omega

/-! ### Sums as lists of summands -/
def AllIn (G : List Int) (l : List Nat) : Prop := ∀ g ∈ l, (g : Int) ∈ G
theorem isSum_list {G : List Int} {n : Nat} (h : IsSum G n) : ∃ l, AllIn G l ∧ l.sum = n := by
  induction h with
  | zero => exact ⟨[], by intro g hg; simp at hg, rfl⟩
  | @add m g hg _ ih =>
    obtain ⟨l, h1, h2⟩ := ih
    refine ⟨g :: l, ?_, by simp; omega⟩
    intro x hx
    rcases List.mem_cons.1 hx with rfl | hx
    · exact hg
    · exact h1 x hx
theorem list_isSum {G : List Int} : ∀ l : List Nat, AllIn G l → IsSum G l.sum
  | [], _ => .zero
  | g :: l, h => by
    have h1 := list_isSum l fun x hx => h x (List.mem_cons_of_mem _ hx)
    have : (g :: l).sum = l.sum + g := by simp; omega
    rw [this]
    exact .add (h g (by simp)) h1

theorem sum_take_drop (l : List Nat) (k : Nat) : (l.take k).sum + (l.drop k).sum = l.sum := by
  conv => rhs; rw [← List.take_append_drop k l]
  rw [List.sum_append]

/-- Fewer than a summands suffice for a remainder by a. -/
theorem short_list {G : List Int} {a : Nat} (ha : 0 < a) : ∀ (n : Nat) (l : List Nat), l.length = n → AllIn G l → ∃ l', AllIn G l' ∧ l'.length < a ∧ l'.sum % a = l.sum % a := by
  intro n
  induction n using Nat.strongRecOn with
  | _ n ih =>
    intro l hl hG
    by_cases hlt : l.length < a
    · exact ⟨l, hG, hlt, rfl⟩
    · obtain ⟨i, j, hij, hj, e⟩ := pigeon a (fun k => (l.take k).sum % a) (fun k _ => Nat.mod_lt _ ha)
      have hG' : AllIn G (l.take i ++ l.drop j) := by
        intro x hx
        rcases List.mem_append.1 hx with hx | hx
        · exact hG x (List.mem_of_mem_take hx)
        · exact hG x (List.mem_of_mem_drop hx)
      have hlen : (l.take i ++ l.drop j).length < n := by rw [List.length_append, List.length_take, List.length_drop]; omega
      obtain ⟨l', h1, h2, h3⟩ := ih _ hlen _ rfl hG'
      refine ⟨l', h1, h2, ?_⟩
      rw [h3, List.sum_append]
      have s1 := sum_take_drop l j
      rw [← s1, Nat.add_mod, e, ← Nat.add_mod]

theorem sum_le_len (l : List Nat) (b : Nat) (h : ∀ g ∈ l, g ≤ b) : l.sum ≤ l.length * b := by
  induction l with
  | nil => simp
  | cons x r ih =>
    have h1 := ih fun g hg => h g (List.mem_cons_of_mem _ hg)
    have h2 := h x (by simp)
    rw [List.sum_cons, List.length_cons, Nat.succ_mul]
    omega

/-- The least number with a property. -/
theorem least_of {P : Nat → Prop} {n : Nat} (h : P n) : ∃ m, P m ∧ ∀ k, k < m → ¬ P k := by
  induction n using Nat.strongRecOn with
  | _ n ih =>
    by_cases hk : ∃ k, k < n ∧ P k
    · obtain ⟨k, h1, h2⟩ := hk
      exact ih k h1 h2
    · exact ⟨n, h, fun k h1 h2 => hk ⟨k, h1, h2⟩⟩

/-- THE REMAINDERS by a generator a that sums have: the multiples of one number e, which divides every generator. -/
theorem classes {G : List Int} {a : Nat} (ha : 0 < a) (haG : (a : Int) ∈ G) : ∃ e, 0 < e ∧ dvd_all e G ∧ ∀ k, ∃ s, IsSum G s ∧ s % a = (k * e) % a := by
  obtain ⟨e, ⟨he, s, hs, hse⟩, hmin⟩ := least_of (P := fun e => 0 < e ∧ ∃ s, IsSum G s ∧ s % a = e % a) (n := a) ⟨ha, a, IsSum.gen haG, rfl⟩
  refine ⟨e, he, ?_, fun k => ⟨k * s, hs.times k, by rw [Nat.mul_mod, hse, ← Nat.mul_mod]⟩⟩
  intro g hg
  by_cases hr : g % e = 0
  · exact Nat.dvd_of_mod_eq_zero hr
  · exfalso
    refine hmin (g % e) (Nat.mod_lt _ he) ⟨by omega, g + (g / e) * ((a - 1) * s), (IsSum.gen hg).plus ((hs.times (a - 1)).times (g / e)), ?_⟩
    have e1 : (g + (g / e) * ((a - 1) * s)) % a = (g + (g / e) * ((a - 1) * e)) % a := by
      rw [Nat.add_mod g, Nat.mul_mod (g / e), Nat.mul_mod (a - 1) s, hse, ← Nat.mul_mod (a - 1) e, ← Nat.mul_mod (g / e), ← Nat.add_mod]
    have e2 : g + (g / e) * ((a - 1) * e) = g % e + a * ((g / e) * e) := by
      have h1 := Nat.div_add_mod g e
      have h2 : (g / e) * ((a - 1) * e) = (a - 1) * ((g / e) * e) := by rw [Nat.mul_left_comm]
      have h3 : a * ((g / e) * e) = (a - 1) * ((g / e) * e) + (g / e) * e := by
        obtain ⟨b, rfl⟩ : ∃ b, a = b + 1 := ⟨a - 1, by omega⟩
        rw [Nat.add_sub_cancel, Nat.succ_mul]
      have h4 : e * (g / e) = (g / e) * e := Nat.mul_comm _ _
      omega
    rw [e1, e2, Nat.add_mul_mod_self_left]

/-- BEHIND 59 * 60 EVERY MULTIPLE OF THE COMMON DIVISOR IS A SUM. -/
theorem isSum_far {G : List Int} {a d n : Nat} (haG : (a : Int) ∈ G) (hG : ∀ x ∈ G, 1 ≤ x ∧ x ≤ 60) (hd : ∀ e, dvd_all e G → e ∣ d) (hdn : d ∣ n) (hn : 3540 ≤ n) : IsSum G n := by
  have ha1 := (hG _ haG).1
  have ha2 := (hG _ haG).2
  have ha : 0 < a := by omega
  obtain ⟨e, he, heG, hcl⟩ := classes ha haG
  obtain ⟨k, hk⟩ := Nat.dvd_trans (hd e heG) hdn
  obtain ⟨s, hs, hse⟩ := hcl k
  obtain ⟨l, hl, hls⟩ := isSum_list hs
  obtain ⟨l', h1, h2, h3⟩ := short_list ha l.length l rfl hl
  have h4 := sum_le_len l' 60 (fun g hg => by have := (hG _ (h1 g hg)).2; omega)
  have h5 : l'.length * 60 ≤ 59 * 60 := Nat.mul_le_mul_right 60 (by omega)
  have h6 : l'.sum % a = n % a := by rw [h3, hls, hse, hk, Nat.mul_comm]
  have h7 : ∃ t, n = l'.sum + t * a := by
    refine ⟨(n - l'.sum) / a, ?_⟩
    have h8 : (n - l'.sum) % a = 0 := Nat.sub_mod_eq_zero_of_mod_eq h6.symm
    have h9 := Nat.div_add_mod (n - l'.sum) a
    have h10 : a * ((n - l'.sum) / a) = (n - l'.sum) / a * a := Nat.mul_comm _ _
    omega
  obtain ⟨t, rfl⟩ := h7
  exact (list_isSum l' h1).plus ((IsSum.gen haG).times t)

/-! ### Numbers that can generate -/
def okG (G : List Int) : Bool := G.all (fun x => inB x 1 60) && decide (1 ≤ G.length) && decide (G.length ≤ 20)
theorem okG_iff {G : List Int} : okG G = true ↔ (∀ x ∈ G, 1 ≤ x ∧ x ≤ 60) ∧ 1 ≤ G.length ∧ G.length ≤ 20 := by
  unfold okG
  rw [Bool.and_eq_true, Bool.and_eq_true, List.all_eq_true, decide_eq_true_eq, decide_eq_true_eq]
  constructor
  · rintro ⟨⟨h1, h2⟩, h3⟩
    exact ⟨fun x hx => inB_true (h1 x hx), h2, h3⟩
  · rintro ⟨h1, h2, h3⟩
    exact ⟨⟨fun x hx => inB_mk (h1 x hx).1 (h1 x hx).2, h2⟩, h3⟩
theorem okG_pos {G : List Int} (h : okG G = true) : Pos G := fun x hx => ((okG_iff.1 h).1 x hx).1

theorem gcdOf_dvd {a b : Int} {e : Nat} (ha : e ∣ a.natAbs) (hb : e ∣ b.natAbs) : e ∣ (gcdOf a b).natAbs := by
  unfold gcdOf
  split
  · simpa using Nat.dvd_gcd ha hb
  · simp
theorem gcdL_dvd_of {G : List Int} {e : Nat} (h : ∀ x ∈ G, e ∣ x.natAbs) : e ∣ (gcdL G).natAbs := by
  unfold gcdL
  suffices hs : ∀ (L : List Int) (a : Int), e ∣ a.natAbs → (∀ x ∈ L, e ∣ x.natAbs) → e ∣ (L.foldl gcdOf a).natAbs from hs G 0 (by simp) h
  intro L
  induction L with
  | nil => intro a ha _; exact ha
  | cons x r ih => intro a ha hx; exact ih _ (gcdOf_dvd ha (hx x (by simp))) fun y hy => hx y (List.mem_cons_of_mem _ hy)
theorem gcdL_dvd {G : List Int} (hG : ∀ x ∈ G, 1 ≤ x ∧ x ≤ 60) : ∀ x ∈ G, (gcdL G).natAbs ∣ x.natAbs := by
  unfold gcdL
  suffices hs : ∀ (L : List Int) (a : Int), 0 ≤ a ∧ a ≤ 1000000 → (∀ x ∈ L, 1 ≤ x ∧ x ≤ 60) → ((L.foldl gcdOf a).natAbs ∣ a.natAbs) ∧ ∀ x ∈ L, (L.foldl gcdOf a).natAbs ∣ x.natAbs from (hs G 0 (by omega) hG).2
  intro L
  induction L with
  | nil => intro a _ _; exact ⟨Nat.dvd_refl _, by simp⟩
  | cons y r ih =>
    intro a ha hx
    have hy := hx y (by simp)
    have hg : gcdOf a y = (Nat.gcd a.natAbs y.natAbs : Nat) := gcdOf_in (small_iff.2 (by omega)) (small_iff.2 (by omega))
    obtain ⟨h1, h2⟩ := ih (gcdOf a y) (gcdOf_bounds a y) fun z hz => hx z (List.mem_cons_of_mem _ hz)
    rw [List.foldl_cons]
    have h3 : (gcdOf a y).natAbs = Nat.gcd a.natAbs y.natAbs := by rw [hg]; rfl
    rw [h3] at h1
    refine ⟨Nat.dvd_trans h1 (Nat.gcd_dvd_left _ _), fun x hx' => ?_⟩
    rcases List.mem_cons.1 hx' with rfl | hx'
    · exact Nat.dvd_trans h1 (Nat.gcd_dvd_right _ _)
    · exact h2 x hx'
theorem gcdL_pos {G : List Int} (h : okG G = true) : 1 ≤ gcdL G ∧ gcdL G ≤ 60 := by
  obtain ⟨hG, hl, -⟩ := okG_iff.1 h
  obtain ⟨x, r, rfl⟩ : ∃ x r, G = x :: r := by
    cases G with
    | nil => simp at hl
    | cons x r => exact ⟨x, r, rfl⟩
  have h1 := gcdL_dvd hG x (by simp)
  have hx := hG x (by simp)
  have h2 := gcdL_bounds (x :: r)
  have h3 : (gcdL (x :: r)).natAbs ≠ 0 := by
    intro e
    rw [e] at h1
    have := Nat.eq_zero_of_zero_dvd h1
    omega
  have h4 := Nat.le_of_dvd (by omega) h1
  omega

/-- Whether n is a sum, by a number not too great. -/
theorem isSum_reduce {G : List Int} (h : okG G = true) {a : Nat} (ha : (a : Int) ∈ G) {n : Nat} (hn : 3600 < n) (hd : (gcdL G).natAbs ∣ n) : IsSum G n ∧ IsSum G (3600 + (n - 3600) % a) := by
  obtain ⟨hG, -, -⟩ := okG_iff.1 h
  have hdv : ∀ e, dvd_all e G → e ∣ (gcdL G).natAbs := fun e he => gcdL_dvd_of fun x hx => by
    have h1 := hG x hx
    have h2 : (x.natAbs : Int) = x := by omega
    exact he x.natAbs (by rw [h2]; exact hx)
  refine ⟨isSum_far ha hG hdv hd (by omega), isSum_far ha hG hdv ?_ (by omega)⟩
  have h1 : (gcdL G).natAbs ∣ a := by simpa using gcdL_dvd hG _ ha
  have h3 := Nat.div_add_mod (n - 3600) a
  have h4 : n = (3600 + (n - 3600) % a) + a * ((n - 3600) / a) := by omega
  rw [h4] at hd
  exact (Nat.dvd_add_left (Nat.dvd_mul_right_of_dvd h1 _)).1 hd

noncomputable def generatesB (G : List Int) (n : Int) : Bool := okG G && inB n 0 1000000 && sumB G n.toNat
end Go.Proofs.YtdjjagpecbflnaaGreatDoor
