/-
  CHAPTER 3: the model of semigroups; the reference's contracts; arrays.
-/
import Derived.Test.YtnbnkjmellmmlaaCh2
import Derived.Test.YtnbnkjmellmmlaaKitA
import Derived.Deep.MidRow
import Derived.Laws.StructEq
import Derived.Deep.RegionHeld3
import Derived.OrdersHeld

/-
  PLAIN LEMMAS on numerical semigroups: sums of generators, the common divisor, the bound behind which every multiple is a sum; generators that are sums of others. No program in this text.
-/
namespace Go.Proofs.Ytnbnkjmellmmlaa
open Go

/-- n is a sum of numbers of G, each any number of times. -/
inductive IsSum (G : List Int) : Nat → Prop
  | zero : IsSum G 0
  | add {n g : Nat} (hg : (g : Int) ∈ G) (h : IsSum G n) : IsSum G (n + g)

theorem IsSum.plus {G : List Int} {a b : Nat} (ha : IsSum G a) (hb : IsSum G b) : IsSum G (a + b) := by
  induction hb with
  | zero => exact ha
  | add hg _ ih => rw [← Nat.add_assoc]; exact .add hg ih
theorem IsSum.times {G : List Int} {a : Nat} (ha : IsSum G a) (k : Nat) : IsSum G (k * a) := by
  induction k with
  | zero => rw [Nat.zero_mul]; exact .zero
  | succ k ih => rw [Nat.succ_mul]; exact ih.plus ha
theorem IsSum.gen {G : List Int} {g : Nat} (hg : (g : Int) ∈ G) : IsSum G g := by have := IsSum.add hg (IsSum.zero (G := G)); rwa [Nat.zero_add] at this
theorem IsSum.mono {G H : List Int} (h : ∀ x ∈ G, x ∈ H) {n : Nat} (hn : IsSum G n) : IsSum H n := by
  induction hn with
  | zero => exact .zero
  | add hg _ ih => exact .add (h _ hg) ih

/-- Numbers that can generate: each at least 1. -/
def Pos (G : List Int) : Prop := ∀ x ∈ G, 1 ≤ x

theorem isSum_step {G : List Int} {n : Nat} (hn : 1 ≤ n) : IsSum G n ↔ ∃ g : Nat, (g : Int) ∈ G ∧ g ≤ n ∧ IsSum G (n - g) := by
  constructor
  · intro h
    cases h with
    | zero => omega
    | @add m g hg h =>
      refine ⟨g, hg, by omega, ?_⟩
      have e : m + g - g = m := by omega
      rw [e]; exact h
  · rintro ⟨g, hg, hle, h⟩
    have e : n = (n - g) + g := by omega
    rw [e]
    exact .add hg h
theorem isSum_nil {n : Nat} (h : IsSum [] n) : n = 0 := by
  cases h with
  | zero => rfl
  | add hg _ => simp at hg
/-- A sum that does not reach x uses smaller numbers alone. -/
theorem isSum_less {G : List Int} {n : Nat} {x : Int} (h : IsSum G n) (hx : (n : Int) < x) : IsSum (G.filter fun y => decide (y < x)) n := by
  induction h with
  | zero => exact .zero
  | @add m g hg _ ih =>
    refine .add (List.mem_filter.2 ⟨hg, by simp; omega⟩) (ih (by omega))

open Classical in
noncomputable def sumB (G : List Int) (n : Nat) : Bool := if IsSum G n then true else false
theorem sumB_iff {G : List Int} {n : Nat} : sumB G n = true ↔ IsSum G n := by
  unfold sumB; split <;> simp_all
theorem sumB_false {G : List Int} {n : Nat} : sumB G n = false ↔ ¬ IsSum G n := by
  unfold sumB; split <;> simp_all
theorem sumB_zero (G : List Int) : sumB G 0 = true := sumB_iff.2 .zero
theorem sumB_congr {G H : List Int} (h : ∀ x, x ∈ G ↔ x ∈ H) (n : Nat) : sumB G n = sumB H n := by
  rw [Bool.eq_iff_iff, sumB_iff, sumB_iff]
  exact ⟨IsSum.mono fun x hx => (h x).1 hx, IsSum.mono fun x hx => (h x).2 hx⟩

/-! ### The common divisor -/
def dvd_all (d : Nat) (G : List Int) : Prop := ∀ g : Nat, (g : Int) ∈ G → d ∣ g
theorem isSum_dvd {G : List Int} {d n : Nat} (hd : dvd_all d G) (h : IsSum G n) : d ∣ n := by
  induction h with
  | zero => exact Nat.dvd_zero d
  | add hg _ ih => exact Nat.dvd_add ih (hd _ hg)

/-! ### Two of m + 1 numbers below m are equal -/
theorem pigeon : ∀ (m : Nat) (f : Nat → Nat), (∀ i, i ≤ m → f i < m) → ∃ i j, i < j ∧ j ≤ m ∧ f i = f j
  | 0, f, h => absurd (h 0 (Nat.le_refl _)) (by omega)
  | m + 1, f, h => by
    by_cases hv : ∃ i, i ≤ m ∧ f i = f (m + 1)
    · obtain ⟨i, hi, e⟩ := hv
      exact ⟨i, m + 1, by omega, Nat.le_refl _, e⟩
    · have hno : ∀ i, i ≤ m → f i ≠ f (m + 1) := fun i hi e => hv ⟨i, hi, e⟩
      have hvm := h (m + 1) (Nat.le_refl _)
      obtain ⟨i, j, hij, hj, e⟩ := pigeon m (fun i => if f i = m then f (m + 1) else f i) (fun i hi => by
        have h1 := h i (by omega)
        have h2 := hno i hi
        show (if f i = m then f (m + 1) else f i) < m
        split <;> omega)
      refine ⟨i, j, hij, by omega, ?_⟩
      have h1 := hno i (by omega)
      have h2 := hno j hj
      split at e <;> split at e <;> omega

/-! ### Sums as lists of summands -/
def AllIn (G : List Int) (l : List Nat) : Prop := ∀ g ∈ l, (g : Int) ∈ G
theorem isSum_list {G : List Int} {n : Nat} (h : IsSum G n) : ∃ l, AllIn G l ∧ l.sum = n := by
  induction h with
  | zero => exact ⟨[], by intro g hg; simp at hg, rfl⟩
  | @add m g hg _ ih =>
    obtain ⟨l, h1, h2⟩ := ih
    refine ⟨g :: l, ?_, by simp; omega⟩
    intro x hx
    rcases List.mem_cons.1 hx with rfl | hx
    · exact hg
    · exact h1 x hx
theorem list_isSum {G : List Int} : ∀ l : List Nat, AllIn G l → IsSum G l.sum
  | [], _ => .zero
  | g :: l, h => by
    have h1 := list_isSum l fun x hx => h x (List.mem_cons_of_mem _ hx)
    have : (g :: l).sum = l.sum + g := by simp; omega
    rw [this]
    exact .add (h g (by simp)) h1

theorem sum_take_drop (l : List Nat) (k : Nat) : (l.take k).sum + (l.drop k).sum = l.sum := by
  conv => rhs; rw [← List.take_append_drop k l]
  rw [List.sum_append]

/-- Fewer than a summands suffice for a remainder by a. -/
theorem short_list {G : List Int} {a : Nat} (ha : 0 < a) : ∀ (n : Nat) (l : List Nat), l.length = n → AllIn G l → ∃ l', AllIn G l' ∧ l'.length < a ∧ l'.sum % a = l.sum % a := by
  intro n
  induction n using Nat.strongRecOn with
  | _ n ih =>
    intro l hl hG
    by_cases hlt : l.length < a
    · exact ⟨l, hG, hlt, rfl⟩
    · obtain ⟨i, j, hij, hj, e⟩ := pigeon a (fun k => (l.take k).sum % a) (fun k _ => Nat.mod_lt _ ha)
      have hG' : AllIn G (l.take i ++ l.drop j) := by
        intro x hx
        rcases List.mem_append.1 hx with hx | hx
        · exact hG x (List.mem_of_mem_take hx)
        · exact hG x (List.mem_of_mem_drop hx)
      have hlen : (l.take i ++ l.drop j).length < n := by rw [List.length_append, List.length_take, List.length_drop]; omega
      obtain ⟨l', h1, h2, h3⟩ := ih _ hlen _ rfl hG'
      refine ⟨l', h1, h2, ?_⟩
      rw [h3, List.sum_append]
      have s1 := sum_take_drop l j
      rw [← s1, Nat.add_mod, e, ← Nat.add_mod]

theorem sum_le_len (l : List Nat) (b : Nat) (h : ∀ g ∈ l, g ≤ b) : l.sum ≤ l.length * b := by
  induction l with
  | nil => simp
  | cons x r ih =>
    have h1 := ih fun g hg => h g (List.mem_cons_of_mem _ hg)
    have h2 := h x (by simp)
    rw [List.sum_cons, List.length_cons, Nat.succ_mul]
    omega

/-- The least number with a property. -/
theorem least_of {P : Nat → Prop} {n : Nat} (h : P n) : ∃ m, P m ∧ ∀ k, k < m → ¬ P k := by
  induction n using Nat.strongRecOn with
  | _ n ih =>
    by_cases hk : ∃ k, k < n ∧ P k
    · obtain ⟨k, h1, h2⟩ := hk
      exact ih k h1 h2
    · exact ⟨n, h, fun k h1 h2 => hk ⟨k, h1, h2⟩⟩

/-- THE REMAINDERS by a generator a that sums have: the multiples of one number e, which divides every generator. -/
theorem classes {G : List Int} {a : Nat} (ha : 0 < a) (haG : (a : Int) ∈ G) : ∃ e, 0 < e ∧ dvd_all e G ∧ ∀ k, ∃ s, IsSum G s ∧ s % a = (k * e) % a := by
  obtain ⟨e, ⟨he, s, hs, hse⟩, hmin⟩ := least_of (P := fun e => 0 < e ∧ ∃ s, IsSum G s ∧ s % a = e % a) (n := a) ⟨ha, a, IsSum.gen haG, rfl⟩
  refine ⟨e, he, ?_, fun k => ⟨k * s, hs.times k, by rw [Nat.mul_mod, hse, ← Nat.mul_mod]⟩⟩
  intro g hg
  by_cases hr : g % e = 0
  · exact Nat.dvd_of_mod_eq_zero hr
  · exfalso
    refine hmin (g % e) (Nat.mod_lt _ he) ⟨by omega, g + (g / e) * ((a - 1) * s), (IsSum.gen hg).plus ((hs.times (a - 1)).times (g / e)), ?_⟩
    have e1 : (g + (g / e) * ((a - 1) * s)) % a = (g + (g / e) * ((a - 1) * e)) % a := by
      rw [Nat.add_mod g, Nat.mul_mod (g / e), Nat.mul_mod (a - 1) s, hse, ← Nat.mul_mod (a - 1) e, ← Nat.mul_mod (g / e), ← Nat.add_mod]
    have e2 : g + (g / e) * ((a - 1) * e) = g % e + a * ((g / e) * e) := by
      have h1 := Nat.div_add_mod g e
      have h2 : (g / e) * ((a - 1) * e) = (a - 1) * ((g / e) * e) := by rw [Nat.mul_left_comm]
      have h3 : a * ((g / e) * e) = (a - 1) * ((g / e) * e) + (g / e) * e := by
        obtain ⟨b, rfl⟩ : ∃ b, a = b + 1 := ⟨a - 1, by omega⟩
        rw [Nat.add_sub_cancel, Nat.succ_mul]
      have h4 : e * (g / e) = (g / e) * e := Nat.mul_comm _ _
      omega
    rw [e1, e2, Nat.add_mul_mod_self_left]

/-- BEHIND 59 * 60 EVERY MULTIPLE OF THE COMMON DIVISOR IS A SUM. -/
theorem isSum_far {G : List Int} {a d n : Nat} (haG : (a : Int) ∈ G) (hG : ∀ x ∈ G, 1 ≤ x ∧ x ≤ 60) (hd : ∀ e, dvd_all e G → e ∣ d) (hdn : d ∣ n) (hn : 3540 ≤ n) : IsSum G n := by
  have ha1 := (hG _ haG).1
  have ha2 := (hG _ haG).2
  have ha : 0 < a := by omega
  obtain ⟨e, he, heG, hcl⟩ := classes ha haG
  obtain ⟨k, hk⟩ := Nat.dvd_trans (hd e heG) hdn
  obtain ⟨s, hs, hse⟩ := hcl k
  obtain ⟨l, hl, hls⟩ := isSum_list hs
  obtain ⟨l', h1, h2, h3⟩ := short_list ha l.length l rfl hl
  have h4 := sum_le_len l' 60 (fun g hg => by have := (hG _ (h1 g hg)).2; omega)
  have h5 : l'.length * 60 ≤ 59 * 60 := Nat.mul_le_mul_right 60 (by omega)
  have h6 : l'.sum % a = n % a := by rw [h3, hls, hse, hk, Nat.mul_comm]
  have h7 : ∃ t, n = l'.sum + t * a := by
    refine ⟨(n - l'.sum) / a, ?_⟩
    have h8 : (n - l'.sum) % a = 0 := Nat.sub_mod_eq_zero_of_mod_eq h6.symm
    have h9 := Nat.div_add_mod (n - l'.sum) a
    have h10 : a * ((n - l'.sum) / a) = (n - l'.sum) / a * a := Nat.mul_comm _ _
    omega
  obtain ⟨t, rfl⟩ := h7
  exact (list_isSum l' h1).plus ((IsSum.gen haG).times t)

/-! ### Numbers that can generate -/
def okG (G : List Int) : Bool := G.all (fun x => inB x 1 60) && decide (1 ≤ G.length) && decide (G.length ≤ 20)
theorem okG_iff {G : List Int} : okG G = true ↔ (∀ x ∈ G, 1 ≤ x ∧ x ≤ 60) ∧ 1 ≤ G.length ∧ G.length ≤ 20 := by
  unfold okG
  rw [Bool.and_eq_true, Bool.and_eq_true, List.all_eq_true, decide_eq_true_eq, decide_eq_true_eq]
  constructor
  · rintro ⟨⟨h1, h2⟩, h3⟩
    exact ⟨fun x hx => inB_true (h1 x hx), h2, h3⟩
  · rintro ⟨h1, h2, h3⟩
    exact ⟨⟨fun x hx => inB_mk (h1 x hx).1 (h1 x hx).2, h2⟩, h3⟩
theorem okG_pos {G : List Int} (h : okG G = true) : Pos G := fun x hx => ((okG_iff.1 h).1 x hx).1

theorem gcdOf_dvd {a b : Int} {e : Nat} (ha : e ∣ a.natAbs) (hb : e ∣ b.natAbs) : e ∣ (gcdOf a b).natAbs := by
  unfold gcdOf
  split
  · simpa using Nat.dvd_gcd ha hb
  · simp
theorem gcdL_dvd_of {G : List Int} {e : Nat} (h : ∀ x ∈ G, e ∣ x.natAbs) : e ∣ (gcdL G).natAbs := by
  unfold gcdL
  suffices hs : ∀ (L : List Int) (a : Int), e ∣ a.natAbs → (∀ x ∈ L, e ∣ x.natAbs) → e ∣ (L.foldl gcdOf a).natAbs from hs G 0 (by simp) h
  intro L
  induction L with
  | nil => intro a ha _; exact ha
  | cons x r ih => intro a ha hx; exact ih _ (gcdOf_dvd ha (hx x (by simp))) fun y hy => hx y (List.mem_cons_of_mem _ hy)
theorem gcdL_dvd {G : List Int} (hG : ∀ x ∈ G, 1 ≤ x ∧ x ≤ 60) : ∀ x ∈ G, (gcdL G).natAbs ∣ x.natAbs := by
  unfold gcdL
  suffices hs : ∀ (L : List Int) (a : Int), 0 ≤ a ∧ a ≤ 1000000 → (∀ x ∈ L, 1 ≤ x ∧ x ≤ 60) → ((L.foldl gcdOf a).natAbs ∣ a.natAbs) ∧ ∀ x ∈ L, (L.foldl gcdOf a).natAbs ∣ x.natAbs from (hs G 0 (by omega) hG).2
  intro L
  induction L with
  | nil => intro a _ _; exact ⟨Nat.dvd_refl _, by simp⟩
  | cons y r ih =>
    intro a ha hx
    have hy := hx y (by simp)
    have hg : gcdOf a y = (Nat.gcd a.natAbs y.natAbs : Nat) := gcdOf_in (small_iff.2 (by omega)) (small_iff.2 (by omega))
    obtain ⟨h1, h2⟩ := ih (gcdOf a y) (gcdOf_bounds a y) fun z hz => hx z (List.mem_cons_of_mem _ hz)
    rw [List.foldl_cons]
    have h3 : (gcdOf a y).natAbs = Nat.gcd a.natAbs y.natAbs := by rw [hg]; rfl
    rw [h3] at h1
    refine ⟨Nat.dvd_trans h1 (Nat.gcd_dvd_left _ _), fun x hx' => ?_⟩
    rcases List.mem_cons.1 hx' with rfl | hx'
    · exact Nat.dvd_trans h1 (Nat.gcd_dvd_right _ _)
    · exact h2 x hx'
theorem gcdL_pos {G : List Int} (h : okG G = true) : 1 ≤ gcdL G ∧ gcdL G ≤ 60 := by
  obtain ⟨hG, hl, -⟩ := okG_iff.1 h
  obtain ⟨x, r, rfl⟩ : ∃ x r, G = x :: r := by
    cases G with
    | nil => simp at hl
    | cons x r => exact ⟨x, r, rfl⟩
  have h1 := gcdL_dvd hG x (by simp)
  have hx := hG x (by simp)
  have h2 := gcdL_bounds (x :: r)
  have h3 : (gcdL (x :: r)).natAbs ≠ 0 := by
    intro e
    rw [e] at h1
    have := Nat.eq_zero_of_zero_dvd h1
    omega
  have h4 := Nat.le_of_dvd (by omega) h1
  omega

/-- Whether n is a sum, by a number not too great. -/
theorem isSum_reduce {G : List Int} (h : okG G = true) {a : Nat} (ha : (a : Int) ∈ G) {n : Nat} (hn : 3600 < n) (hd : (gcdL G).natAbs ∣ n) : IsSum G n ∧ IsSum G (3600 + (n - 3600) % a) := by
  obtain ⟨hG, -, -⟩ := okG_iff.1 h
  have hdv : ∀ e, dvd_all e G → e ∣ (gcdL G).natAbs := fun e he => gcdL_dvd_of fun x hx => by
    have h1 := hG x hx
    have h2 : (x.natAbs : Int) = x := by omega
    exact he x.natAbs (by rw [h2]; exact hx)
  refine ⟨isSum_far ha hG hdv hd (by omega), isSum_far ha hG hdv ?_ (by omega)⟩
  have h1 : (gcdL G).natAbs ∣ a := by simpa using gcdL_dvd hG _ ha
  have h3 := Nat.div_add_mod (n - 3600) a
  have h4 : n = (3600 + (n - 3600) % a) + a * ((n - 3600) / a) := by omega
  rw [h4] at hd
  exact (Nat.dvd_add_left (Nat.dvd_mul_right_of_dvd h1 _)).1 hd

noncomputable def generatesB (G : List Int) (n : Int) : Bool := okG G && inB n 0 1000000 && sumB G n.toNat
end Go.Proofs.Ytnbnkjmellmmlaa

/-
  PLAIN LEMMAS on numerical semigroups, second half: generators that are no sums of lesser ones; the numbers behind the greatest conductor; what a semigroup is. No program in this text.
-/
namespace Go.Proofs.Ytnbnkjmellmmlaa
open Go

/-- The numbers of an ascending list that are no sums of lesser ones. -/
noncomputable def minOf (S : List Int) : List Int := S.filter fun x => !sumB (S.filter fun y => decide (y < x)) x.toNat
/-- The numbers of G that are no sums of lesser ones. -/
noncomputable def minL (G : List Int) : List Int := minOf (sortL G)

theorem minOf_mem {S : List Int} {x : Int} (h : x ∈ minOf S) : x ∈ S := (List.mem_filter.1 h).1
theorem minL_mem {G : List Int} {x : Int} (h : x ∈ minL G) : x ∈ G := (sortL_spec G).2 x |>.1 (minOf_mem h)
theorem minOf_length_le (S : List Int) : (minOf S).length ≤ S.length := List.length_filter_le _ _
theorem minL_length_le (G : List Int) : (minL G).length ≤ G.length := Nat.le_trans (minOf_length_le _) (sortL_length_le G)
theorem sortL_of_asc {G : List Int} (h : Asc G) : sortL G = G := (sortL_eq h fun _ => Iff.rfl).symm
theorem minL_of_asc {G : List Int} (h : Asc G) : minL G = minOf G := by unfold minL; rw [sortL_of_asc h]

/-- What lies ahead of place k of an ascending list are its lesser numbers. -/
theorem mem_take_lesser {S : List Int} (hS : Asc S) (k : Nat) (hk : k < S.length) (x : Int) : x ∈ S.take k ↔ x ∈ S.filter fun y => decide (y < S[k]) := by
  rw [List.mem_filter, decide_eq_true_eq]
  constructor
  · intro h
    obtain ⟨i, hi, rfl⟩ := List.mem_take_iff_getElem.1 h
    exact ⟨List.getElem_mem _, hS i k hk (by omega)⟩
  · rintro ⟨h1, h2⟩
    obtain ⟨i, hi, rfl⟩ := List.getElem_of_mem h1
    refine List.mem_take_iff_getElem.2 ⟨i, ?_, rfl⟩
    have hik : i < k := by
      rcases Nat.lt_or_ge i k with h | h
      · exact h
      · rcases Nat.lt_or_ge k i with h3 | h3
        · have := hS k i hi h3; omega
        · have : i = k := by omega
          subst this; omega
    omega
theorem take_lesser {S : List Int} (hS : Asc S) (k : Nat) (hk : k < S.length) (n : Nat) : sumB (S.take k) n = sumB (S.filter fun y => decide (y < S[k])) n :=
  sumB_congr (mem_take_lesser hS k hk) n

/-- One round: place k of the list is kept where it is no sum of what lies ahead. -/
theorem minOf_take {S : List Int} (hS : Asc S) (k : Nat) (hk : k < S.length) : (S.take (k + 1)).filter (fun x => !sumB (S.filter fun y => decide (y < x)) x.toNat)
    = (S.take k).filter (fun x => !sumB (S.filter fun y => decide (y < x)) x.toNat) ++ (if sumB (S.take k) S[k].toNat then [] else [S[k]]) := by
  rw [List.take_add_one, List.getElem?_eq_getElem hk, List.filter_append]
  congr 1
  show List.filter _ [S[k]] = _
  rw [List.filter_cons, ← take_lesser hS k hk]
  cases sumB (S.take k) S[k].toNat <;> rfl

theorem asc_sub {S : List Int} (hS : Asc S) (p : Int → Bool) : Asc (S.filter p) := by
  have hp : S.Pairwise (· < ·) := List.pairwise_iff_getElem.2 fun i j hi hj hij => hS i j hj hij
  have hq := hp.filter p
  intro i j hj hij
  exact List.pairwise_iff_getElem.1 hq i j (Nat.lt_trans hij hj) hj hij
theorem minOf_asc {S : List Int} (hS : Asc S) : Asc (minOf S) := asc_sub hS _
theorem minL_asc (G : List Int) : Asc (minL G) := minOf_asc (sortL_spec G).1

/-! ### A number more -/
theorem sum_more {G : List Int} {x n : Nat} (h : IsSum G n) : IsSum (G ++ [(x : Int)]) n := h.mono fun _ hy => List.mem_append_left _ hy
theorem sum_snoc {G : List Int} {x n : Nat} : IsSum (G ++ [(x : Int)]) n ↔ IsSum G n ∨ (x ≤ n ∧ 1 ≤ x ∧ IsSum (G ++ [(x : Int)]) (n - x)) ∨ (x = 0 ∧ IsSum G n) := by
  constructor
  · intro h
    induction h with
    | zero => exact .inl .zero
    | @add m g hg h ih =>
      rcases List.mem_append.1 hg with hg | hg
      · rcases ih with h1 | ⟨h1, h2, h3⟩ | ⟨h1, h2⟩
        · exact .inl (.add hg h1)
        · refine .inr (.inl ⟨by omega, h2, ?_⟩)
          have e : m + g - x = (m - x) + g := by omega
          rw [e]
          exact .add (List.mem_append_left _ hg) h3
        · exact .inl (.add hg h2)
      · obtain rfl : g = x := by have := List.mem_singleton.1 hg; omega
        by_cases hx : g = 0
        · subst hx
          rcases ih with h1 | ⟨h1, h2, h3⟩ | ⟨h1, h2⟩
          · exact .inl h1
          · omega
          · exact .inl h2
        · refine .inr (.inl ⟨by omega, by omega, ?_⟩)
          rw [Nat.add_sub_cancel]; exact h
  · rintro (h | ⟨h1, h2, h3⟩ | ⟨_, h⟩)
    · exact sum_more h
    · have e : n = (n - x) + x := by omega
      rw [e]
      exact .add (by simp) h3
    · exact sum_more h
theorem sumB_snoc {G : List Int} {x n : Nat} (hx : 1 ≤ x) (hn : x ≤ n) : sumB (G ++ [(x : Int)]) n = (sumB G n || sumB (G ++ [(x : Int)]) (n - x)) := by
  rw [Bool.eq_iff_iff, Bool.or_eq_true, sumB_iff, sumB_iff, sumB_iff, sum_snoc]
  constructor
  · rintro (h | ⟨_, _, h⟩ | ⟨h, _⟩)
    · exact .inl h
    · exact .inr h
    · omega
  · rintro (h | h)
    · exact .inl h
    · exact .inr (.inl ⟨hn, hx, h⟩)
theorem sumB_snoc_small {G : List Int} {x n : Nat} (hn : n < x) : sumB (G ++ [(x : Int)]) n = sumB G n := by
  rw [Bool.eq_iff_iff, sumB_iff, sumB_iff, sum_snoc]
  constructor
  · rintro (h | ⟨h, _⟩ | ⟨h, _⟩)
    · exact h
    · omega
    · omega
  · exact .inl
/-- A number that is a sum already adds none. -/
theorem sum_idle {G : List Int} {x n : Nat} (hx : IsSum G x) (h : IsSum (G ++ [(x : Int)]) n) : IsSum G n := by
  induction h with
  | zero => exact .zero
  | @add m g hg _ ih =>
    rcases List.mem_append.1 hg with hg | hg
    · exact .add hg ih
    · obtain rfl : g = x := by have := List.mem_singleton.1 hg; omega
      exact ih.plus hx
theorem sumB_idle {G : List Int} {x : Nat} (hx : sumB G x = true) (n : Nat) : sumB (G ++ [(x : Int)]) n = sumB G n := by
  rw [Bool.eq_iff_iff, sumB_iff, sumB_iff]
  exact ⟨sum_idle (sumB_iff.1 hx), sum_more⟩
theorem sumB_own {G : List Int} {x : Nat} : sumB (G ++ [(x : Int)]) x = true := sumB_iff.2 (IsSum.gen (by simp))

/-! ### Every number is a sum of those that are no sums of lesser ones -/
theorem sum_minOf {S : List Int} (hS : ∀ x ∈ S, 1 ≤ x) {n : Nat} (h : IsSum S n) : IsSum (minOf S) n := by
  suffices hs : ∀ (m : Nat) (x : Int), x.toNat = m → x ∈ S → IsSum (minOf S) x.toNat by
    induction h with
    | zero => exact .zero
    | @add m g hg _ ih =>
      have := hs g (g : Int) (by omega) hg
      rw [Int.toNat_natCast] at this
      exact ih.plus this
  intro m
  induction m using Nat.strongRecOn with
  | _ m ih =>
    intro x hx hxS
    have h1 := hS x hxS
    cases hb : sumB (S.filter fun y => decide (y < x)) x.toNat
    · have hmem : ((x.toNat : Nat) : Int) ∈ minOf S := by
        rw [show ((x.toNat : Nat) : Int) = x by omega]
        exact List.mem_filter.2 ⟨hxS, by rw [hb]; rfl⟩
      exact IsSum.gen hmem
    · have hsum := sumB_iff.1 hb
      generalize x.toNat = k at hsum
      clear hb
      induction hsum with
      | zero => exact .zero
      | @add p g hg _ ih2 =>
        obtain ⟨h2, h3⟩ := List.mem_filter.1 hg
        have h4 : (g : Int) < x := by simpa using h3
        have := ih ((g : Int)).toNat (by omega) (g : Int) rfl h2
        rw [Int.toNat_natCast] at this
        exact ih2.plus this
theorem sumB_minL {G : List Int} (hG : ∀ x ∈ G, 1 ≤ x) (n : Nat) : sumB (minL G) n = sumB G n := by
  rw [Bool.eq_iff_iff, sumB_iff, sumB_iff]
  constructor
  · exact IsSum.mono fun x hx => minL_mem hx
  · intro h
    refine sum_minOf (fun x hx => hG x (((sortL_spec G).2 x).1 hx)) (h.mono fun x hx => ((sortL_spec G).2 x).2 hx)
theorem le_sum_of (g : Nat) : ∀ l : List Nat, g ∈ l → g ≤ l.sum
  | [], h => by simp at h
  | x :: l, h => by
    rw [List.sum_cons]
    rcases List.mem_cons.1 h with rfl | h
    · omega
    · have := le_sum_of g l h; omega
/-- None of them is a sum of the others. -/
theorem minOf_sole {S : List Int} (hm : minOf S = S) {x : Int} (hx : x ∈ S) (h1 : 1 ≤ x) (R : List Int) (hR : ∀ y ∈ R, y ∈ S ∧ y ≠ x) : ¬ IsSum R x.toNat := by
  intro h
  rw [← hm] at hx
  have hb := (List.mem_filter.1 hx).2
  have hlt : IsSum (R.filter fun y => decide (y < x)) x.toNat := by
    -- each summand is at most the sum, and none is x itself
    obtain ⟨l, hl, hs⟩ := isSum_list h
    have hall : ∀ g ∈ l, g ≤ l.sum := fun g hg => le_sum_of g l hg
    rw [← hs]
    refine list_isSum l fun g hg => List.mem_filter.2 ⟨hl g hg, ?_⟩
    have h2 := hR _ (hl g hg)
    have h3 := hall g hg
    rw [hs] at h3
    simp only [decide_eq_true_eq]
    have h4 := h2.2
    omega
  have : sumB (S.filter fun y => decide (y < x)) x.toNat = true := sumB_iff.2 (hlt.mono fun y hy => by
    obtain ⟨h2, h3⟩ := List.mem_filter.1 hy
    exact List.mem_filter.2 ⟨(hR y h2).1, h3⟩)
  rw [this] at hb
  cases hb

/-! ### All numbers from 200 on -/
open Classical in
noncomputable def endsB (G : List Int) : Bool := if ∀ n, 200 ≤ n → IsSum G n then true else false
theorem endsB_iff {G : List Int} : endsB G = true ↔ ∀ n, 200 ≤ n → IsSum G n := by unfold endsB; split <;> simp_all
theorem ends_of_window {G : List Int} {m : Nat} (hm : (m : Int) ∈ G) (h1 : 1 ≤ m) (h : ∀ n, 200 ≤ n → n < 200 + m → IsSum G n) : ∀ n, 200 ≤ n → IsSum G n := by
  intro n
  induction n using Nat.strongRecOn with
  | _ n ih =>
    intro hn
    by_cases hlt : n < 200 + m
    · exact h n hn hlt
    · have e : n = (n - m) + m := by omega
      rw [e]
      exact .add hm (ih (n - m) (by omega) (by omega))
theorem endsB_window {G : List Int} {m : Nat} (hm : (m : Int) ∈ G) (h1 : 1 ≤ m) : endsB G = true ↔ ∀ n, 200 ≤ n → n < 200 + m → sumB G n = true := by
  rw [endsB_iff]
  exact ⟨fun h n hn _ => sumB_iff.2 (h n hn), fun h => ends_of_window hm h1 fun n hn hlt => sumB_iff.1 (h n hn hlt)⟩
theorem gcd_one_of_ends {G : List Int} (hok : okG G = true) (h : endsB G = true) : gcdL G = 1 := by
  have hd := gcdL_dvd (okG_iff.1 hok).1
  have hp := gcdL_pos hok
  have hda : dvd_all (gcdL G).natAbs G := fun g hg => by simpa using hd _ hg
  have h1 := isSum_dvd hda (endsB_iff.1 h 200 (by omega))
  have h2 := isSum_dvd hda (endsB_iff.1 h 201 (by omega))
  have h3 : (gcdL G).natAbs ∣ 1 := by simpa using Nat.dvd_sub h2 h1
  have h4 := Nat.le_of_dvd (by omega) h3
  omega

/-! ### What a semigroup is -/
noncomputable def isSgB (G : List Int) : Bool := okG G && decide (G.length ≤ 12) && ascB G && decide (gcdL G = 1) && decide (minL G = G) && endsB G
structure IsSg (G : List Int) : Prop where
  ok : okG G = true
  len : G.length ≤ 12
  asc : ascB G = true
  gcd : gcdL G = 1
  min : minL G = G
  ends : endsB G = true
theorem isSgB_iff {G : List Int} : isSgB G = true ↔ IsSg G := by
  unfold isSgB
  simp only [Bool.and_eq_true, decide_eq_true_eq]
  exact ⟨fun ⟨⟨⟨⟨⟨h1, h2⟩, h3⟩, h4⟩, h5⟩, h6⟩ => ⟨h1, h2, h3, h4, h5, h6⟩, fun h => ⟨⟨⟨⟨⟨h.ok, h.len⟩, h.asc⟩, h.gcd⟩, h.min⟩, h.ends⟩⟩
theorem IsSg.Asc {G : List Int} (h : IsSg G) : Asc G := asc_of_ascB h.asc
theorem IsSg.bounds {G : List Int} (h : IsSg G) : ∀ x ∈ G, 1 ≤ x ∧ x ≤ 60 := (okG_iff.1 h.ok).1
theorem IsSg.pos {G : List Int} (h : IsSg G) : 1 ≤ G.length := (okG_iff.1 h.ok).2.1
theorem IsSg.ne {G : List Int} (h : IsSg G) : G ≠ [] := fun e => by have := h.pos; rw [e] at this; simp at this
theorem isSgB_nil : isSgB [] = false := by
  rw [Bool.eq_false_iff]; intro h; exact (isSgB_iff.1 h).ne rfl

/-- By the program's way: as many numbers as are kept, and sums from 200 to 259. -/
theorem isSgB_way {G : List Int} (hok : okG G = true) (hl : G.length ≤ 12) (ha : ascB G = true) : isSgB G = true ↔ G.length ≤ (minOf G).length ∧ ∀ n, 200 ≤ n → n < 260 → sumB G n = true := by
  have hA := asc_of_ascB ha
  obtain ⟨hb, hp, -⟩ := okG_iff.1 hok
  rw [isSgB_iff]
  constructor
  · intro h
    have h1 := h.min
    rw [minL_of_asc hA] at h1
    exact ⟨by rw [h1]; exact Nat.le_refl _, fun n hn _ => sumB_iff.2 (endsB_iff.1 h.ends n hn)⟩
  · rintro ⟨h1, h2⟩
    have hmin : minOf G = G := (List.filter_sublist (l := G)).eq_of_length_le h1
    obtain ⟨x, r, rfl⟩ : ∃ x r, G = x :: r := by
      cases G with
      | nil => simp at hp
      | cons x r => exact ⟨x, r, rfl⟩
    have hx := hb x (by simp)
    have he : endsB (x :: r) = true := (endsB_window (m := x.toNat) (by rw [show ((x.toNat : Nat) : Int) = x by omega]; simp) (by omega)).2 fun n hn hlt => h2 n hn (by omega)
    exact ⟨hok, hl, ha, gcd_one_of_ends hok he, by rw [minL_of_asc hA]; exact hmin, he⟩

/-- Whether n is an element. -/
noncomputable def hasN (G : List Int) (n : Int) : Bool := isSgB G && decide (0 ≤ n) && sumB G n.toNat
theorem hasN_far {G : List Int} (h : isSgB G = true) {n : Int} (hn : 200 ≤ n) : hasN G n = true := by
  unfold hasN
  rw [h, decide_eq_true (by omega : 0 ≤ n), sumB_iff.2 (endsB_iff.1 (isSgB_iff.1 h).ends n.toNat (by omega))]; rfl
theorem hasN_neg {G : List Int} {n : Int} (hn : n < 0) : hasN G n = false := by
  unfold hasN; rw [decide_eq_false (by omega : ¬ 0 ≤ n), Bool.and_false, Bool.false_and]
theorem hasN_not {G : List Int} (h : isSgB G = false) (n : Int) : hasN G n = false := by
  unfold hasN; rw [h]; rfl
theorem hasN_in {G : List Int} (h : isSgB G = true) (n : Nat) : hasN G (n : Int) = sumB G n := by
  unfold hasN; rw [h, decide_eq_true (by omega : (0 : Int) ≤ n)]; simp

/-! ### FromGens -/
noncomputable def fromB (L : List Int) : Bool := okG L && isSgB (minL L)
noncomputable def fromL (L : List Int) : List Int := if fromB L then minL L else []
theorem fromL_yes {L : List Int} (h : fromB L = true) : fromL L = minL L := by unfold fromL; rw [if_pos h]
theorem fromL_no {L : List Int} (h : fromB L = false) : fromL L = [] := by unfold fromL; rw [h]; rfl
theorem fromL_length_le (L : List Int) : (fromL L).length ≤ 12 := by
  cases h : fromB L
  · rw [fromL_no h]; simp
  · rw [fromL_yes h]
    unfold fromB at h
    exact (isSgB_iff.1 (Bool.and_eq_true_iff.1 h).2).len
theorem fromL_isSg {L : List Int} (h : fromB L = true) : isSgB (fromL L) = true := by
  rw [fromL_yes h]; unfold fromB at h; exact (Bool.and_eq_true_iff.1 h).2

noncomputable def multN (G : List Int) : Int := if isSgB G then G.headD 0 else 0
noncomputable def dimN (G : List Int) : Int := if isSgB G then (G.length : Int) else 0
end Go.Proofs.Ytnbnkjmellmmlaa

/-
  CONTRACTS of the reference's chapter 3, first half: l3Table, l3Gens.
-/
namespace Go.Proofs.Ytnbnkjmellmmlaa
open Go Go.RowKit

/-- The table while number n is worked on: below n it is right, at n it holds b, behind it nothing yet. -/
noncomputable def tabF (G : List Int) (n : Nat) (b : Bool) (M : Nat) : List Value := (List.range M).map fun j => Value.bool (if j < n then sumB G j else if j = n then b else false)
theorem tabF_length (G : List Int) (n : Nat) (b : Bool) (M : Nat) : (tabF G n b M).length = M := by simp [tabF]
theorem tabF_get (G : List Int) (n : Nat) (b : Bool) (M j : Nat) (hj : j < M) : (tabF G n b M)[j]? = some (Value.bool (if j < n then sumB G j else if j = n then b else false)) := by
  unfold tabF
  rw [List.getElem?_map, List.getElem?_range hj]
  rfl
theorem tabF_set (G : List Int) (n : Nat) (b : Bool) (M : Nat) (_hn : n < M) : (tabF G n b M).set n (.bool true) = tabF G n true M := by
  apply List.ext_getElem?
  intro j
  by_cases hj : j < M
  · rw [List.getElem?_set, tabF_get G n true M j hj]
    by_cases e : n = j
    · subst e
      rw [if_pos rfl, if_pos (by rw [tabF_length]; exact hj), if_neg (by omega), if_pos rfl]
    · rw [if_neg e, tabF_get G n b M j hj]
      by_cases h1 : j < n
      · rw [if_pos h1, if_pos h1]
      · rw [if_neg h1, if_neg h1, if_neg (Ne.symm e), if_neg (Ne.symm e)]
  · rw [List.getElem?_eq_none (by rw [List.length_set, tabF_length]; omega), List.getElem?_eq_none (by rw [tabF_length]; omega)]
theorem tabF_next (G : List Int) (n : Nat) (M : Nat) : tabF G n (sumB G n) M = tabF G (n + 1) false M := by
  unfold tabF
  apply List.map_congr_left
  intro j _
  by_cases h1 : j < n
  · rw [if_pos h1, if_pos (by omega)]
  · by_cases h2 : j = n
    · subst h2
      rw [if_neg h1, if_pos rfl, if_pos (by omega)]
    · rw [if_neg h1, if_neg h2, if_neg (by omega)]
      split <;> rfl
theorem tabF_start (G : List Int) (M : Nat) : (List.replicate (M + 1) (Value.bool false)).set 0 (.bool true) = tabF G 1 false (M + 1) := by
  apply List.ext_getElem?
  intro j
  by_cases hj : j < M + 1
  · rw [tabF_get G 1 false (M + 1) j hj, List.getElem?_set]
    by_cases e : 0 = j
    · subst e
      rw [if_pos rfl, if_pos (by simp), if_pos (by omega), sumB_zero]
    · rw [if_neg e, if_neg (by omega), List.getElem?_replicate, if_pos hj]
      split <;> rfl
  · rw [List.getElem?_eq_none (by rw [List.length_set, List.length_replicate]; omega), List.getElem?_eq_none (by rw [tabF_length]; omega)]
/-- The finished table. -/
noncomputable def tabL (G : List Int) (M : Nat) : List Value := (List.range M).map fun j => Value.bool (sumB G j)
theorem tabF_all (G : List Int) (M : Nat) : tabF G M false M = tabL G M := by
  unfold tabF tabL
  apply List.map_congr_left
  intro j hj
  rw [if_pos (List.mem_range.1 hj)]
/-- What the first generators tell of n. -/
noncomputable def partB (G : List Int) (n k : Nat) : Bool := (G.take k).any fun x => decide (x ≤ (n : Int)) && sumB G (n - x.toNat)
theorem partB_zero (G : List Int) (n : Nat) : partB G n 0 = false := by simp [partB]
theorem partB_succ (G : List Int) (n k : Nat) (h : k < G.length) : partB G n (k + 1) = (partB G n k || (decide (G[k] ≤ (n : Int)) && sumB G (n - (G[k]).toNat))) := by
  unfold partB
  rw [List.take_add_one, List.getElem?_eq_getElem h, List.any_append]
  simp
theorem partB_all (G : List Int) (hG : Pos G) (n : Nat) (hn : 1 ≤ n) : partB G n G.length = sumB G n := by
  unfold partB
  rw [List.take_of_length_le (Nat.le_refl _), Bool.eq_iff_iff, List.any_eq_true, sumB_iff, isSum_step hn]
  constructor
  · rintro ⟨x, hx, h⟩
    rw [Bool.and_eq_true, decide_eq_true_eq, sumB_iff] at h
    have h1 := hG x hx
    refine ⟨x.toNat, by rw [Int.toNat_of_nonneg (by omega)]; exact hx, by omega, h.2⟩
  · rintro ⟨g, hg, hle, h⟩
    exact ⟨(g : Int), hg, by rw [Bool.and_eq_true, decide_eq_true_eq, sumB_iff]; exact ⟨by omega, by simpa using h⟩⟩

theorem infoBool : (Try.prog.info? 4).map (fun i => (i.zero, i.size, i.bytes)) = some (some (Value.bool false), 1, 1) := by kernel_rfl

/-- The new table, and what the first store leaves of it. -/
theorem tab0 {w w1 : World} (G : List Int) (m : Nat) (hown : w1.ownsRow w.heap.size 4 1 (.slice (some ⟨w.heap.size, 0, none⟩) (m + 1) (m + 1)) (m + 1) (madeCells (Value.bool false).cells ((m + 1) * 1)).toList) (hgrow : w.grownBy w1 none) :
    (∃ u, w1.cell? ⟨w.heap.size, 0, none⟩ = some u) ∧ w1.frozen? ⟨w.heap.size, 0, none⟩ = false ∧
    Hid ((w1.setCell ⟨w.heap.size, 0, none⟩ (.bool true)).ownsRow w.heap.size 4 1 (.slice (some ⟨w.heap.size, 0, none⟩) (m + 1) (m + 1)) (m + 1) (tabF G 1 false (m + 1))) ∧
    Hid (Below w.heap.size w (w1.setCell ⟨w.heap.size, 0, none⟩ (.bool true))) := by
  have hbel : Below w.heap.size w w1 := (Below.refl _ w).grown hgrow (Nat.le_refl _) (fun k h => by cases h)
  have hown' : w1.ownsRow w.heap.size 4 1 (.slice (some ⟨w.heap.size, 0, none⟩) (m + 1) (m + 1)) (m + 1) (List.replicate (m + 1) (Value.bool false)) := by
    have e : (madeCells (Value.bool false).cells ((m + 1) * 1)).toList = List.replicate (m + 1) (Value.bool false) := by rw [Nat.mul_one]; exact toList_madeCells_one _ _
    rw [← e]; exact hown
  have hst := hown'.stored 0 (.bool true)
  rw [tabF_start G m] at hst
  refine ⟨?_, hown'.frozenAt 0, Lib.hid hst.1, Lib.hid (hbel.setCell (p := ⟨w.heap.size, 0, none⟩) (Nat.le_refl _) (.bool true))⟩
  rw [hown'.cellAt 0 (by omega)]; exact ⟨_, List.getElem?_eq_getElem (by simp)⟩

set_option maxRecDepth 100000 in
set_option maxHeartbeats 800000 in
theorem spec_l3Table (G : List Int) (a : Option Addr) (cap m : Nat) (w : World) (hr : SlV w a (G.map (Value.int .i64))) (hb : G.length ≤ 1048576) (hG : Pos G) (hm : m ≤ 4000) :
    Calls Try.prog 51 #[.slice a G.length cap, .int .i64 (m : Int)] w fun e w' => ∃ v, e = .returned v ∧ w'.ownsRow w.heap.size 4 1 v (m + 1) (tabL G (m + 1)) ∧ Below w.heap.size w w' := by
  obtain ⟨i0, hi, hz0, hz1, hz2⟩ := info_parts infoBool
  have hwm : IntKind.i64.wrap ((m : Int) + 1) = ((m + 1 : Nat) : Int) := by rw [IntWalk.i64_in _ (by omega)]; rfl
  go_enter Try.func51, Try.ntmps51
  go_wp2_with (at_make; refine wpList_make_full _ rfl _ _ 45 rfl w.heap.size 4 i0 (Value.bool false) 1 Try.underlying45 hi hz0 hz1 .i64 .i64 _ _ (m + 1) rfl rfl (by first | rfl | (simp; done) | omega) (by first | rfl | (simp; done) | omega) (by rw [hz2]; omega) (by unfold maxLen; omega) (Nat.le_refl _) ?_; intro w1 hown hgrow; obtain ⟨⟨u, hu⟩, hfz, HS, HB⟩ := tab0 G m hown hgrow; clear hown hgrow)
  clear hi hz0 hz1 hz2
  go_loopw [6] (fun i wr => ∃ n : Nat, 1 ≤ n ∧ n ≤ m + 1 ∧ i = .int .i64 (n : Int) ∧ wr.ownsRow w.heap.size 4 1 (.slice (some ⟨w.heap.size, 0, none⟩) (m + 1) (m + 1)) (m + 1) (tabF G n false (m + 1)) ∧ Below w.heap.size w wr) (fun i _ => m + 1 - (intOf i).toNat)
  case atStart => exact ⟨1, Nat.le_refl _, by omega, rfl, HS.out, HB.out⟩
  case round =>
    clear HS HB hu hfz hwm
    obtain ⟨n, hn1, hn2, rfl, hown, hbel⟩ := hrel
    by_cases hlt : n ≤ m
    · have HO := Lib.hid hown
      have HB := Lib.hid hbel
      clear hown hbel
      go_wp2_with fail
      go_loopw [7] (fun i wr => ∃ k : Nat, k ≤ G.length ∧ i = .int .i64 (k : Int) ∧ wr.ownsRow w.heap.size 4 1 (.slice (some ⟨w.heap.size, 0, none⟩) (m + 1) (m + 1)) (m + 1) (tabF G n (partB G n k) (m + 1)) ∧ Below w.heap.size w wr) (fun i _ => G.length - (intOf i).toNat)
      case atStart => exact ⟨0, Nat.zero_le _, rfl, by rw [partB_zero]; exact HO.out, HB.out⟩
      case round =>
        clear HO HB
        obtain ⟨k, hk, rfl, hown, hbel⟩ := hrel
        by_cases hkl : k < G.length
        · obtain ⟨b, off, rfl, hbs, hc⟩ := hr.open (by intro h; rw [List.map_eq_nil_iff] at h; subst h; simp at hkl)
          have hcell : wr.cell? ⟨b, off + k, none⟩ = some (.int .i64 G[k]) := by rw [hbel.cell (p := ⟨b, off + k, none⟩) hbs]; exact hc k _ (by simp [hkl])
          have hx1 := hG G[k] (List.getElem_mem hkl)
          have HP := Lib.hid (partB_succ G n k hkl)
          clear hc hr
          by_cases hle : G[k] ≤ (n : Int)
          · obtain ⟨j, hj⟩ : ∃ j : Nat, j = n - (G[k]).toNat := ⟨_, rfl⟩
            rw [decide_eq_true hle, Bool.true_and, ← hj] at HP
            have hjn : j < n := by omega
            have hsub : (n : Int) - G[k] = (j : Int) := by omega
            have htab : wr.cell? ⟨w.heap.size, j, none⟩ = some (.bool (sumB G j)) := by
              rw [hown.cellAt j (by omega), tabF_get G n _ (m + 1) j (by omega), if_pos hjn]
            have hw1 : IntKind.i64.wrap ((n : Int) - G[k]) = (j : Int) := by rw [hsub]; exact IntWalk.i64_in _ (by omega)
            clear hj
            generalize G[k] = x at *
            cases hsb : sumB G j
            · rw [hsb] at htab HP
              rw [Bool.or_false] at HP
              have HO := Lib.hid hown
              clear hown hsb
              go_wp2_with fail
              go_roundw
              case rel => exact ⟨k + 1, by omega, by go_num, by rw [HP.out]; exact HO.out, hbel⟩
              case measure => simp [intOf]; omega
            · rw [hsb] at htab HP
              rw [Bool.or_true] at HP
              have hst := hown.stored n (.bool true)
              rw [tabF_set G n _ (m + 1) (by omega)] at hst
              have HS := Lib.hid hst.1
              obtain ⟨u, hu⟩ : ∃ u, wr.cell? ⟨w.heap.size, n, none⟩ = some u := by
                rw [hown.cellAt n (by omega)]; exact ⟨_, List.getElem?_eq_getElem (by rw [tabF_length]; omega)⟩
              have hfz := hown.frozenAt n
              have HB := Lib.hid (hbel.setCell (p := ⟨w.heap.size, n, none⟩) (Nat.le_refl _) (.bool true))
              clear hst hown hsb hbel
              go_wp2_with fail
              go_roundw
              case rel => exact ⟨k + 1, by omega, by go_num, by rw [HP.out]; exact HS.out, HB.out⟩
              case measure => simp [intOf]; omega
          · rw [decide_eq_false hle, Bool.false_and, Bool.or_false] at HP
            generalize G[k] = x at *
            have HO := Lib.hid hown
            clear hown
            go_wp2_with fail
            go_roundw
            case rel => exact ⟨k + 1, by omega, by go_num, by rw [HP.out]; exact HO.out, hbel⟩
            case measure => simp [intOf]; omega
        · obtain rfl : k = G.length := by omega
          rw [partB_all G hG n hn1, tabF_next] at hown
          have HO := Lib.hid hown
          clear hown hr
          go_wp2_with fail
          go_roundw
          case rel => exact ⟨n + 1, by omega, by omega, by go_num, HO.out, hbel⟩
          case measure => simp [intOf]; omega
    · obtain rfl : n = m + 1 := by omega
      rw [tabF_all] at hown
      have HO := Lib.hid hown
      clear hown hr
      go_wp2_with fail
      go_ret
      exact ⟨_, rfl, HO.out, hbel⟩
end Go.Proofs.Ytnbnkjmellmmlaa

/-
  CONTRACTS of the reference's chapter 3: l3Gens, Generates.
-/
namespace Go.Proofs.Ytnbnkjmellmmlaa
open Go Go.RowKit

set_option maxRecDepth 100000 in
set_option maxHeartbeats 400000 in
theorem spec_l3Gens (L : List Int) (a : Option Addr) (cap : Nat) (w : World) (hr : SlV w a (L.map (Value.int .i64))) (hb : L.length ≤ 1048576) :
    Calls Try.prog 48 #[.slice a L.length cap] w fun e w' => e = .returned (.bool (okG L)) ∧ w' = w := by
  go_enter Try.func48, Try.ntmps48
  go_wp2_with fail
  go_loop [3] (fun i => ∃ k : Nat, k ≤ L.length ∧ i = .int .i64 (k : Int) ∧ (L.take k).all (fun x => inB x 1 60) = true) (fun i => L.length - (intOf i).toNat)
  case atStart => exact ⟨0, Nat.zero_le _, rfl, by simp⟩
  case round =>
    obtain ⟨k, hk, rfl, hal⟩ := hrel
    have HA := Lib.hid hal
    clear hal
    by_cases hlt : k < L.length
    · obtain ⟨b, off, rfl, hbs, hc⟩ := hr.open (by intro h; rw [List.map_eq_nil_iff] at h; subst h; simp at hlt)
      have hcell : w.cell? ⟨b, off + k, none⟩ = some (.int .i64 L[k]) := hc k _ (by simp [hlt])
      have HT : Hid (L.take (k + 1) = L.take k ++ [L[k]]) := Lib.hid (by rw [List.take_add_one, List.getElem?_eq_getElem hlt]; rfl)
      have HM := Lib.hid (List.getElem_mem hlt)
      clear hc hr
      have hs := fun w => l1In_any L[k] 1 60 w
      cases hsm : inB L[k] 1 60
      · have HR : Hid (okG L = false) := Lib.hid (by
          unfold okG
          rw [Bool.and_eq_false_iff, Bool.and_eq_false_iff]
          left; left
          rw [List.all_eq_false]
          exact ⟨L[k], HM.out, by rw [hsm]; simp⟩)
        rw [hsm] at hs
        clear hsm HM HT
        generalize L[k] = x at *
        go_wp2_with fail
        refine (hs _).mono ?_
        rintro e w' ⟨rfl, rfl⟩
        go_wp2_with fail
        go_ret
        exact ⟨by rw [HR.out]; rfl, rfl⟩
      · have HN : Hid ((L.take (k + 1)).all (fun x => inB x 1 60) = true) := Lib.hid (by rw [HT.out, List.all_append, HA.out]; simp [hsm])
        rw [hsm] at hs
        clear hsm HM HT
        generalize L[k] = x at *
        go_wp2_with fail
        refine (hs _).mono ?_
        rintro e w' ⟨rfl, rfl⟩
        go_wp2_with fail
        go_round
        case rel => exact ⟨k + 1, by omega, by go_num, HN.out⟩
        case measure => simp [intOf]; omega
    · obtain rfl : k = L.length := by omega
      have HR : Hid (okG L = inB (L.length : Int) 1 20) := Lib.hid (by
        have := HA.out
        rw [List.take_of_length_le (Nat.le_refl _)] at this
        unfold okG
        rw [this, Bool.true_and]
        unfold inB
        congr 1 <;> exact decide_eq_decide.2 (by omega))
      have hs := fun w => l1In_any (L.length : Int) 1 20 w
      clear hr
      generalize inB (L.length : Int) 1 20 = r at *
      go_wp2_with fail
      refine (hs _).mono ?_
      rintro e w' ⟨rfl, rfl⟩
      go_wp2_with fail
      go_ret
      exact ⟨by rw [HR.out]; rfl, rfl⟩

theorem generatesB_in {G : List Int} {n : Int} (h : okG G = true) (hn : inB n 0 1000000 = true) : generatesB G n = sumB G n.toNat := by unfold generatesB; rw [h, hn]; rfl
theorem generatesB_out {G : List Int} {n : Int} (h : okG G = false ∨ inB n 0 1000000 = false) : generatesB G n = false := by
  unfold generatesB
  rcases h with h | h <;> simp [h]
/-- No multiple of the common divisor: no sum. -/
theorem sumB_no {G : List Int} (h : okG G = true) {n : Nat} (hd : ¬ (gcdL G).natAbs ∣ n) : sumB G n = false := by
  rw [sumB_false]
  intro hs
  exact hd (isSum_dvd (fun g hg => by simpa using gcdL_dvd (okG_iff.1 h).1 _ hg) hs)

/-- The table, read at its last place. -/
theorem tab_last {w : World} {base : Nat} {v : Value} {G : List Int} {m : Nat} (ho : w.ownsRow base 4 1 v (m + 1) (tabL G (m + 1))) :
    ∃ g c, v = .slice (some ⟨g, 0, none⟩) (m + 1) c ∧ ∀ j, j ≤ m → w.cell? ⟨g, j, none⟩ = some (.bool (sumB G j)) := by
  obtain ⟨hx, ⟨rfl, h0⟩ | ⟨g, cap, cur, rfl, h1, h2, h3⟩⟩ := ho
  · omega
  · refine ⟨g, cap, rfl, fun j hj => ?_⟩
    rw [World.ownsRow.cellAt (base := base) (e := 4) (size := 1) (n := m + 1) (cap := cap) (xs := tabL G (m + 1)) ⟨hx, .inr ⟨g, cap, cur, rfl, h1, h2, h3⟩⟩ j (by omega)]
    unfold tabL
    rw [List.getElem?_map, List.getElem?_range (by omega)]
    rfl

set_option maxRecDepth 100000 in
set_option maxHeartbeats 1600000 in
theorem spec_Generates (G : List Int) (n : Int) (a : Option Addr) (cap : Nat) (w : World) (hr : SlV w a (G.map (Value.int .i64))) (hb : G.length ≤ 1048576) :
    Calls Try.prog 15 #[.slice a G.length cap, .int .i64 n] w fun e w' => e = .returned (.bool (generatesB G n)) ∧ Below w.heap.size w w' := by
  have c1 := spec_l3Gens G a cap w hr hb
  cases hok : okG G
  · have HR := Lib.hid (generatesB_out (n := n) (.inl hok))
    rw [hok] at c1
    clear hok hr
    go_enter Try.func15, Try.ntmps15
    go_wp2_with fail
    refine c1.mono ?_
    rintro e w' ⟨rfl, rfl⟩
    go_wp2_with fail
    go_ret
    exact ⟨by rw [HR.out]; rfl, Below.refl _ _⟩
  · rw [hok] at c1
    have c2 := fun w => l1In_any n 0 1000000 w
    cases hin : inB n 0 1000000
    · have HR := Lib.hid (generatesB_out (G := G) (.inr hin))
      rw [hin] at c2
      clear hok hin hr
      go_enter Try.func15, Try.ntmps15
      go_wp2_with fail
      refine c1.mono ?_
      rintro e w' ⟨rfl, rfl⟩
      go_wp2_with fail
      refine (c2 _).mono ?_
      rintro e w' ⟨rfl, rfl⟩
      go_wp2_with fail
      go_ret
      exact ⟨by rw [HR.out]; rfl, Below.refl _ _⟩
    · rw [hin] at c2
      obtain ⟨hn0, hn1⟩ := inB_true hin
      have HR := Lib.hid (generatesB_in hok hin)
      obtain ⟨N, rfl⟩ := Int.eq_ofNat_of_zero_le hn0
      obtain ⟨hg0, hg1⟩ := gcdL_pos hok
      have c3 := fun w h => spec_GcdOfList G a cap w h (by unfold maxLen; omega)
      have HK := Lib.hid hok
      have HSL := Lib.hid hr
      have hpos := okG_pos hok
      have hlen := (okG_iff.1 hok).2.1
      obtain ⟨d, hd⟩ : ∃ d : Nat, gcdL G = (d : Int) := Int.eq_ofNat_of_zero_le (by omega)
      have HD : Hid ((gcdL G).natAbs = d) := Lib.hid (by rw [hd]; rfl)
      rw [hd] at c3 hg0 hg1
      clear hok hin hd hr
      go_enter Try.func15, Try.ntmps15
      go_wp2_with fail
      refine c1.mono ?_
      rintro e w' ⟨rfl, rfl⟩
      go_wp2_with fail
      refine (c2 _).mono ?_
      rintro e w' ⟨rfl, rfl⟩
      go_wp2_with fail
      refine (c3 _ HSL.out).mono ?_
      rintro e w' ⟨rfl, rfl⟩
      have hd1 : 1 ≤ d := by omega
      clear c1 c2 c3
      by_cases hmod : N % d = 0
      · have hm0 : ((N : Int) % (d : Int)) = 0 := by omega
        by_cases hfar : 3600 < N
        · obtain ⟨b, off, rfl, hbs, hc⟩ := HSL.out.open (by intro h; rw [List.map_eq_nil_iff] at h; subst h; simp at hlen)
          have hx1 := hpos G[0] (List.getElem_mem (by omega))
          have hcell : w'.cell? ⟨b, off + 0, none⟩ = some (.int .i64 G[0]) := hc 0 _ (by simp [show 0 < G.length by omega])
          rw [Nat.add_zero] at hcell
          obtain ⟨x, hx⟩ : ∃ x : Nat, G[0] = (x : Int) := ⟨G[0].toNat, by omega⟩
          have hxG : (x : Int) ∈ G := by rw [← hx]; exact List.getElem_mem _
          have hx60 := ((okG_iff.1 HK.out).1 _ hxG).2
          have hred := isSum_reduce HK.out hxG hfar (by rw [HD.out]; exact Nat.dvd_of_mod_eq_zero hmod)
          have HS1 := Lib.hid (sumB_iff.2 hred.1)
          have HS2 := Lib.hid (sumB_iff.2 hred.2)
          rw [hx] at hcell hx1
          have hmx := Nat.mod_lt (N - 3600) (show 0 < x by omega)
          obtain ⟨M, hM⟩ : ∃ M : Nat, M = 3600 + (N - 3600) % x := ⟨_, rfl⟩
          have HM := Lib.hid hM
          have hM4 : M ≤ 4000 := by rw [hM]; exact Nat.le_trans (Nat.add_le_add_left (Nat.le_of_lt hmx) _) (by omega)
          have hMi : 3600 + ((N : Int) - 3600) % (x : Int) = (M : Int) := by
            have e1 : ((N : Int) - 3600) = ((N - 3600 : Nat) : Int) := by omega
            rw [e1, hM, Int.natCast_add, Int.natCast_emod]; rfl
          have ct := spec_l3Table G (some ⟨b, off, none⟩) cap M w' HSL.out (by omega) hpos hM4
          clear hc hx hred hM hmx hpos
          go_wp2_with fail
          refine ct.mono ?_
          rintro e w2 ⟨v, rfl, ho, hb2⟩
          obtain ⟨g, c, rfl, ht⟩ := tab_last ho
          have hcM : w2.cell? ⟨g, M, none⟩ = some (.bool true) := by rw [ht M (Nat.le_refl _), HM.out, HS2.out]
          clear ct ho ht
          go_wp2_with fail
          go_ret
          exact ⟨by rw [HR.out]; simp [HS1.out], hb2⟩
        · have ct := spec_l3Table G a cap N w' HSL.out (by omega) hpos (by omega)
          clear hpos
          go_wp2_with fail
          refine ct.mono ?_
          rintro e w2 ⟨v, rfl, ho, hb2⟩
          obtain ⟨g, c, rfl, ht⟩ := tab_last ho
          have hcM := ht N (Nat.le_refl _)
          clear ct ho ht
          generalize hq : sumB G N = q at *
          have HQ := Lib.hid hq
          clear hq
          go_wp2_with fail
          go_ret
          exact ⟨by rw [HR.out]; simp [HQ.out], hb2⟩
      · have hm0 : ¬ ((N : Int) % (d : Int)) = 0 := by omega
        have HN := Lib.hid (sumB_no HK.out (n := N) (by rw [HD.out]; intro h; exact hmod (Nat.mod_eq_zero_of_dvd h)))
        clear hpos
        go_wp2_with fail
        go_ret
        exact ⟨by rw [HR.out]; simp [HN.out], Below.refl _ _⟩
end Go.Proofs.Ytnbnkjmellmmlaa

/-
  ARRAY VARIABLES OF MANY CELLS, WHOLE: the block that holds one; loads, stores, zero values, comparison, with no unrolling. No function of the program in this text.
-/
namespace Go.Proofs.Ytnbnkjmellmmlaa
open Go Go.RowKit

/-- Block g is a variable of type t that holds the cells cs. -/
def Arr (w : World) (g : Nat) (t : TypeId) (cs : List Value) : Prop := w.heap[g]? = some (.cells cs.toArray t (0, 0))

theorem Arr.lt {w : World} {g : Nat} {t : TypeId} {cs : List Value} (h : Arr w g t cs) : g < w.heap.size := (Array.getElem?_eq_some_iff.1 h).1
theorem Arr.cell {w : World} {g : Nat} {t : TypeId} {cs : List Value} (h : Arr w g t cs) (j : Nat) : w.cell? ⟨g, j, none⟩ = cs[j]? := by
  rw [cell_of_row w g j _ t (0, 0) h]; simp
theorem Arr.frozen {w : World} {g : Nat} {t : TypeId} {cs : List Value} (h : Arr w g t cs) (j : Nat) : w.frozen? ⟨g, j, none⟩ = false := by
  unfold World.frozen?
  rw [show w.heap[(⟨g, j, none⟩ : Addr).block]? = some (.cells cs.toArray t (0, 0)) from h]
  simp
theorem Arr.range {w : World} {g : Nat} {t : TypeId} {cs : List Value} (h : Arr w g t cs) : w.rangeAt g 0 cs := fun j v hv => by
  rw [Nat.zero_add, h.cell]; exact hv
theorem Arr.there {w : World} {g : Nat} {t : TypeId} {cs : List Value} (h : Arr w g t cs) : w.there g 0 cs.length := fun j hj => by
  rw [Nat.zero_add, h.cell]
  exact ⟨by rw [List.getElem?_eq_getElem hj]; rfl, h.frozen j⟩
theorem Arr.below {w w' : World} {g : Nat} {t : TypeId} {cs : List Value} (h : Arr w g t cs) (hb : Below w.heap.size w w') : Arr w' g t cs := (hb.block g h.lt).trans h
theorem Arr.grown {w w' : World} {g : Nat} {t : TypeId} {cs : List Value} {row : Option Nat} (h : Arr w g t cs) (hg : w.grownBy w' row) (hne : some g ≠ row) : Arr w' g t cs := (hg.block g h.lt hne).trans h
theorem Arr.drew {w : World} {g : Nat} {t : TypeId} {cs : List Value} (h : Arr w g t cs) : Arr w.drew g t cs := h
theorem Arr.drewN {w : World} {g : Nat} {t : TypeId} {cs : List Value} (h : Arr w g t cs) (n : Nat) : Arr (w.drewN n) g t cs := h
theorem Arr.alloc {w : World} {g : Nat} {t : TypeId} {cs : List Value} (h : Arr w g t cs) (o : Obj) : Arr (w.alloc o) g t cs := (by rw [heap_alloc_old w o h.lt]; exact h : (w.alloc o).heap[g]? = _)
theorem Arr.new (w : World) (t : TypeId) (cs : List Value) : Arr (w.alloc (.cells cs.toArray t)) w.heap.size t cs := heap_alloc_new w _
theorem Arr.set {w : World} {g : Nat} {t : TypeId} {cs : List Value} (h : Arr w g t cs) (j : Nat) (u : Value) : Arr (w.setCell ⟨g, j, none⟩ u) g t (cs.set j u) := by
  unfold Arr
  rw [heap_setCell_same w g j cs.toArray t u h]
  simp
theorem grownBy_setCell (w : World) (g j : Nat) (u : Value) : w.grownBy (w.setCell ⟨g, j, none⟩ u) (some g) :=
  ⟨rfl, rfl, rfl, by simp, fun k _ hk => heap_setCell_other w ⟨g, j, none⟩ k u (fun e => hk (by simp [e]))⟩
theorem grownBy_refl (w : World) (row : Option Nat) : w.grownBy w row := ⟨rfl, rfl, rfl, Nat.le_refl _, fun _ _ _ => rfl⟩
theorem grownBy_trans {a b c : World} {row : Option Nat} (h : a.grownBy b row) (k : b.grownBy c row) : a.grownBy c row :=
  ⟨k.os.trans h.os, k.tape.trans h.tape, k.output.trans h.output, Nat.le_trans h.size k.size, fun i hi hne => (k.block i (Nat.lt_of_lt_of_le hi h.size) hne).trans (h.block i hi hne)⟩
theorem grownBy_drew {a b : World} {row : Option Nat} (h : a.grownBy b row) : a.grownBy b.drew row := ⟨h.os, h.tape, h.output, h.size, h.block⟩
theorem grownBy_drewN {a b : World} {row : Option Nat} (h : a.grownBy b row) (n : Nat) : a.grownBy (b.drewN n) row := ⟨h.os, h.tape, h.output, h.size, h.block⟩
theorem below_grownBy {w w' : World} (h : Below w.heap.size w w') (row : Option Nat) : w.grownBy w' row := ⟨h.os, h.tape, h.output, h.size, fun k hk _ => h.block k hk⟩

theorem arr_setCells_aux {g : Nat} {t : TypeId} : ∀ (vs pre : List Value) (w : World) (old : List Value), old.length = vs.length → Arr w g t (pre ++ old) → Arr (w.setCells g pre.length vs) g t (pre ++ vs) ∧ w.grownBy (w.setCells g pre.length vs) (some g)
  | [], pre, w, old, hl, h => by
    obtain rfl : old = [] := List.length_eq_zero_iff.1 hl
    exact ⟨h, grownBy_refl _ _⟩
  | v :: r, pre, w, old, hl, h => by
    obtain ⟨o, os, rfl⟩ : ∃ o os, old = o :: os := by
      cases old with
      | nil => simp at hl
      | cons o os => exact ⟨o, os, rfl⟩
    have h1 := h.set pre.length v
    have e1 : (pre ++ o :: os).set pre.length v = (pre ++ [v]) ++ os := by simp
    rw [e1] at h1
    have ih := arr_setCells_aux r (pre ++ [v]) (w.setCell ⟨g, pre.length, none⟩ v) os (by simpa using hl) h1
    rw [show (pre ++ [v]).length = pre.length + 1 by simp] at ih
    rw [World.setCells]
    exact ⟨by simpa using ih.1, grownBy_trans (grownBy_setCell w g pre.length v) ih.2⟩
theorem Arr.setCells {w : World} {g : Nat} {t : TypeId} {cs : List Value} (h : Arr w g t cs) (vs : List Value) (hl : cs.length = vs.length) : Arr (w.setCells g 0 vs) g t vs ∧ w.grownBy (w.setCells g 0 vs) (some g) := by
  have := arr_setCells_aux vs [] w cs hl (by simpa using h)
  simpa using this

theorem size_setCells (g : Nat) : ∀ (vs : List Value) (o : Nat) (w : World), (w.setCells g o vs).heap.size = w.heap.size
  | [], _, _ => rfl
  | v :: r, o, w => by rw [World.setCells, size_setCells g r (o + 1)]; simp

/-! ### Two arrays of bools compared -/
theorem all_range_eqB : ∀ (xs ys : List Bool), xs.length = ys.length → ((List.range xs.length).all fun i => xs.getD i false == ys.getD i false) = (xs == ys)
  | [], [], _ => rfl
  | x :: xs, y :: ys, h => by
    have ih := all_range_eqB xs ys (by simpa using h)
    rw [List.length_cons, List.range_succ_eq_map, List.all_cons, List.all_map]
    simp only [List.getD_cons_zero, Function.comp_def, List.getD_cons_succ, ih]
    simp [List.cons_beq_cons]
  | [], _ :: _, h => by simp at h
  | _ :: _, [], h => by simp at h

theorem run_equalIn_bools {P : Program} (w : World) (d : Nat) (t e : TypeId) (n : Nat) (ht : P.underlying t = some (.array n e)) (he : P.underlying e = some .bool) (hsz : ∀ w, (sizeOf e).run P w = .ok 1 w)
    (xs ys : List Bool) (hx : xs.length = n) (hy : ys.length = n) :
    (Op.equalIn (d + 2) t (.agg (xs.map Value.bool).toArray) (.agg (ys.map Value.bool).toArray)).run P w = .ok (xs == ys) w := by
  rw [← all_range_eqB xs ys (hx.trans hy.symm), hx, List.range_eq_range', Op.equalIn]
  simp only [Sem.run_bind, run_underlying ht, Result.andThen_ok, hsz, Std.Legacy.Range.forIn_eq_forIn_range', Std.Legacy.Range.size, Nat.sub_zero, Nat.add_sub_cancel, Nat.div_one]
  have hl : ∀ i ∈ List.range' 0 n 1, i < n := fun i hi => by simpa using (List.mem_range'_1.1 hi).2
  generalize List.range' 0 n 1 = l at hl ⊢
  induction l with
  | nil => simp
  | cons i l ih =>
    have hi : i < n := hl i (by simp)
    have px : (part e (xs.map Value.bool).toArray (i * 1)).run P w = .ok (Value.bool (xs.getD i false)) w := by
      simp [part, isAgg, run_underlying he, List.getD, List.getElem?_eq_getElem (show i < xs.length by omega)]
    have py : (part e (ys.map Value.bool).toArray (i * 1)).run P w = .ok (Value.bool (ys.getD i false)) w := by
      simp [part, isAgg, run_underlying he, List.getD, List.getElem?_eq_getElem (show i < ys.length by omega)]
    have pe : (Op.equalIn (d + 1) e (Value.bool (xs.getD i false)) (Value.bool (ys.getD i false))).run P w = .ok (xs.getD i false == ys.getD i false) w := run_equalIn_bool w d e _ _ he
    simp only [List.forIn_cons, Sem.run_bind, px, py, pe, Result.andThen_ok, List.all_cons]
    cases hb : (xs.getD i false == ys.getD i false)
    · simp
    · simp only [Bool.not_true, Bool.false_eq_true, if_false, Sem.run_pure, Result.andThen_ok, Bool.true_and]
      exact ih fun j hj => hl j (by simp [hj])

theorem run_neq_bools {P : Program} (w : World) (t e : TypeId) (n : Nat) (ht : P.underlying t = some (.array n e)) (he : P.underlying e = some .bool) (hsz : ∀ w, (sizeOf e).run P w = .ok 1 w)
    (xs ys : List Bool) (hx : xs.length = n) (hy : ys.length = n) :
    (binOp .neq t (.agg (xs.map Value.bool).toArray) (.agg (ys.map Value.bool).toArray)).run P w = .ok (.bool (!(xs == ys))) w := by
  rw [run_neq_struct, run_equalIn_bools w 9998 t e n ht he hsz xs ys hx hy]
  rfl

/-! ### The operations -/
section
variable {P : Program} {ops : Array Oper} {rest : List Oper} {o : Oper} {a : Act} {w : World} {Q : Exit → Act → World → Prop}

/-- A new variable, zero. -/
theorem wpList_alloc_arr (t : TypeId) (cs : List Value) (hz : (P.info? t).map (·.zero) = some (some (.agg cs.toArray))) (hg : o.guard = none) (ho : o.op = .alloc t)
    (h : wpList P ops Q rest (a.put o.dst (.pointer (some ⟨w.heap.size, 0, none⟩))) (w.alloc (.cells cs.toArray t))) : wpList P ops Q (o :: rest) a w := by
  refine wpList_plain hg fun K hK => ?_
  cases hi : P.info? t with
  | none => simp [hi] at hz
  | some it =>
    have hzz : it.zero = some (.agg cs.toArray) := by simpa [hi] using hz
    unfold Oper.wp execOp
    simp only [ho, Sem.run_bind, Instr.alloc, zeroValue, typeInfo, run_program, hi, hzz, newVar, newRow, run_newObj_alloc, Sem.run_pure, Result.andThen_ok, Value.cells]
    exact hK _ _ h
/-- An array put together of a few parts; the rest is zero. -/
theorem wpList_build_arr (t : TypeId) (parts : Array (Nat × Operand)) (cs : List Value) (hg : o.guard = none) (ho : o.op = .build t parts) (hf : P.built t (parts.map fun (i, x) => (i, a.eval x)).toList = some cs.toArray)
    (h : wpList P ops Q rest (a.put o.dst (.agg cs.toArray)) w) : wpList P ops Q (o :: rest) a w := by
  refine wpList_plain hg fun K hK => ?_
  unfold Oper.wp execOp
  simp only [ho, Sem.run_bind, run_build w t _ _ hf, Result.andThen_ok]
  exact hK _ _ h
/-- A value in a variable of its own. -/
theorem wpList_box_arr (t : TypeId) (x : Operand) (cs : List Value) (hg : o.guard = none) (ho : o.op = .box t x) (hx : a.eval x = .agg cs.toArray)
    (h : wpList P ops Q rest (a.put o.dst (.pointer (some ⟨w.heap.size, 0, none⟩))) (w.alloc (.cells cs.toArray t))) : wpList P ops Q (o :: rest) a w := by
  refine wpList_plain hg fun K hK => ?_
  unfold Oper.wp execOp
  simp only [ho, hx, Sem.run_bind, Instr.box, newVar, newRow, run_newObj_alloc, Sem.run_pure, Result.andThen_ok, Value.cells]
  exact hK _ _ h
/-- Two arrays of bools compared. -/
theorem wpList_neq_bools (t t' e : TypeId) (n : Nat) (x y : Operand) (xs ys : List Bool) (hg : o.guard = none) (ho : o.op = .binOp .neq t x y t') (hx : a.eval x = .agg (xs.map Value.bool).toArray) (hy : a.eval y = .agg (ys.map Value.bool).toArray)
    (ht : P.underlying t = some (.array n e)) (he : P.underlying e = some .bool) (hsz : ∀ w, (sizeOf e).run P w = .ok 1 w) (hm : P.eqGuardType P.depth t = false) (hxl : xs.length = n) (hyl : ys.length = n)
    (h : wpList P ops Q rest (a.put o.dst (.bool (!(xs == ys)))) w) : wpList P ops Q (o :: rest) a w := by
  refine wpList_plain hg fun K hK => ?_
  unfold Oper.wp execOp
  simp only [ho, hx, hy, Sem.run_bind, run_eqGuard_agg w .neq t x y _ _ hm, Result.andThen_ok, run_neq_bools w t e n ht he hsz xs ys hxl hyl]
  exact hK _ _ h
/-- The whole variable, read. -/
theorem wpList_load_arr (t : TypeId) (x : Operand) (g : Nat) (cs : List Value) (d : TypeDesc) (hg : o.guard = none) (ho : o.op = .load t x) (hx : a.eval x = .pointer (some ⟨g, 0, none⟩)) (hc : Arr w g t cs)
    (hu : P.underlying t = some d) (hd : d.isRow = true) (hi : (P.info? t).map (·.size) = some cs.length)
    (h : wpList P ops Q rest (a.put o.dst (.agg cs.toArray)) w) : wpList P ops Q (o :: rest) a w :=
  wpList_load_mid hg t x ho g 0 hx cs d hc.range hu hd hi h
/-- The whole variable, written: whatever world is so is good enough. -/
theorem wpList_store_arr (t : TypeId) (x y : Operand) (g : Nat) (old cs : List Value) (hg : o.guard = none) (ho : o.op = .store t x y) (hx : a.eval x = .pointer (some ⟨g, 0, none⟩)) (hy : a.eval y = .agg cs.toArray) (hc : Arr w g t old) (hl : old.length = cs.length)
    (hi : (P.info? t).map (·.size) = some cs.length) (h1 : ∀ v ∈ cs, v.oneCell' = true)
    (h : ∀ w', Arr w' g t cs → w.grownBy w' (some g) → w'.heap.size = w.heap.size → wpList P ops Q rest (a.put o.dst undef) w') : wpList P ops Q (o :: rest) a w := by
  refine wpList_store_mid hg t x y ho g 0 cs.toArray hx hy (by have := hc.there; rw [hl] at this; simpa using this) (by simpa using hi) (all_oneCell_toArray h1) ?_
  obtain ⟨k1, k2⟩ := hc.setCells cs hl
  rw [List.toList_toArray]
  exact h _ k1 k2 (size_setCells g cs 0 w)
end

/-! ### What a function returns -/
theorem results_arr {P : Program} {fn : Func} {p : Tmp} {ty : TypeId} (h : fn.results = #[.cell p ty]) (tmps : Array Value) (w : World) (g : Nat) (cs : List Value) (d : TypeDesc) (hp : tmps.getD p undef = .pointer (some ⟨g, 0, none⟩)) (hc : Arr w g ty cs)
    (hu : P.underlying ty = some d) (hd : d.isRow = true) (hi : (P.info? ty).map (·.size) = some cs.length) : (results fn tmps).run P w = .ok (.agg cs.toArray) w := by
  have hl := run_loadVar_mid w g 0 ty cs d hc.range hu hd hi
  have e : tmps[p]?.getD undef = .pointer (some ⟨g, 0, none⟩) := by simpa using hp
  simp only [results, h]
  simp [e, asAddr, hl]
theorem results_arr_tmp {P : Program} {fn : Func} {p u : Tmp} {ty : TypeId} (h : fn.results = #[.cell p ty, .tmp u]) (tmps : Array Value) (w : World) (g : Nat) (cs : List Value) (d : TypeDesc) (hp : tmps.getD p undef = .pointer (some ⟨g, 0, none⟩)) (hc : Arr w g ty cs)
    (hu : P.underlying ty = some d) (hd : d.isRow = true) (hi : (P.info? ty).map (·.size) = some cs.length) : (results fn tmps).run P w = .ok (.tuple #[.agg cs.toArray, tmps.getD u undef]) w := by
  have hl := run_loadVar_mid w g 0 ty cs d hc.range hu hd hi
  have e : tmps[p]?.getD undef = .pointer (some ⟨g, 0, none⟩) := by simpa using hp
  simp only [results, h]
  simp [Result.andThen, e, asAddr, hl]

/-! ### The steps of a region that draws its order, one by one (written out by region.py) -/
theorem held_take {P : Program} {ops : Array Oper} {Q : Exit → Act → World → Prop} {md : Region.Mode} {S : World → Prop} (i : Nat) (oi : Oper) (v : Value) {fuel : Nat} {listed : Array Bool} {a : Act} {w : World} (hi : ops[i]? = some oi)
    (hs : Region.noSelect ops = true) (hf : Region.free md ops listed i = true) (hr : (Region.ready md ops listed).contains i = true)
    (hQ : ∀ c a w, Q (.panic c) (a.put oi.dst v) w → Q (.panic c) a w) (hw : Region.wanted oi (yielded ops a.tmps) = true) (hS : S w) (hv : ∀ w, S w → (execOp a.eval oi).run P w = .ok (.value v) w)
    (h : wpAnyH P md ops Q S fuel (listed.setIfInBounds i true) (a.put oi.dst v) w) : wpAnyH P md ops Q S (fuel + 1) listed a w :=
  wpAnyH_take hi hs hf hr hQ (.inl ⟨hw, hv⟩) hS h
theorem held_skip {P : Program} {ops : Array Oper} {Q : Exit → Act → World → Prop} {md : Region.Mode} {S : World → Prop} (i : Nat) (oi : Oper) {fuel : Nat} {listed : Array Bool} {a : Act} {w : World} (hi : ops[i]? = some oi)
    (hs : Region.noSelect ops = true) (hf : Region.free md ops listed i = true) (hr : (Region.ready md ops listed).contains i = true)
    (hQ : ∀ c a w, Q (.panic c) (a.put oi.dst undef) w → Q (.panic c) a w) (hw : Region.wanted oi (yielded ops a.tmps) = false) (hS : S w)
    (h : wpAnyH P md ops Q S fuel (listed.setIfInBounds i true) (a.put oi.dst undef) w) : wpAnyH P md ops Q S (fuel + 1) listed a w :=
  wpAnyH_take hi hs hf hr hQ (.inr ⟨hw, rfl⟩) hS h
end Go.Proofs.Ytnbnkjmellmmlaa

/-
  CONTRACTS of the reference's chapter 3: l2Same, l3Minimal.
-/
namespace Go.Proofs.Ytnbnkjmellmmlaa
open Go Go.RowKit

set_option maxRecDepth 100000 in
set_option maxHeartbeats 400000 in
/-- l2Same: whether the two lists are equal. -/
theorem spec_l2Same (L M : List Int) (a c : Option Addr) (cap cap2 : Nat) (w : World) (hr : SlV w a (L.map (Value.int .i64))) (hs : SlV w c (M.map (Value.int .i64))) (hb : L.length ≤ 4611686018427387904) (hb2 : M.length ≤ 4611686018427387904) :
    Calls Try.prog 57 #[.slice a L.length cap, .slice c M.length cap2] w fun e w' => e = .returned (.bool (decide (L = M))) ∧ Below w.heap.size w w' := by
  by_cases hlen : L.length = M.length
  · have hne : ((L.length : Int) != (M.length : Int)) = false := by simp [hlen]
    have HL := Lib.hid hlen
    clear hlen
    go_enter Try.func57, Try.ntmps57
    go_wp2_with fail
    go_loopw [5] (fun i wr => ∃ k : Nat, k ≤ L.length ∧ i = .int .i64 (k : Int) ∧ (∀ j, j < k → L[j]? = M[j]?) ∧ Below w.heap.size w wr) (fun i _ => L.length - (intOf i).toNat)
    case atStart => exact ⟨0, Nat.zero_le _, rfl, fun j h => by omega, Below.refl _ _⟩
    case round =>
      obtain ⟨k, hk, rfl, heq, hbel⟩ := hrel
      have HE := Lib.hid heq
      clear heq
      by_cases hlt : k < L.length
      · have hltM : k < M.length := by have := HL.out; omega
        obtain ⟨b, off, rfl, hbs, hc⟩ := hr.open (by intro h; rw [List.map_eq_nil_iff] at h; subst h; simp at hlt)
        obtain ⟨b2, off2, rfl, hbs2, hc2⟩ := hs.open (by intro h; rw [List.map_eq_nil_iff] at h; subst h; simp at hltM)
        have hcell : wr.cell? ⟨b, off + k, none⟩ = some ((Value.int .i64) L[k]) := by rw [hbel.cell (p := ⟨b, off + k, none⟩) hbs]; exact hc k _ (by simp [hlt])
        have hcell2 : wr.cell? ⟨b2, off2 + k, none⟩ = some ((Value.int .i64) M[k]) := by rw [hbel.cell (p := ⟨b2, off2 + k, none⟩) hbs2]; exact hc2 k _ (by simp [hltM])
        clear hc hc2 hr hs
        have hx0 : (0 : Int) ≤ (k : Int) := by omega
        have hx1 : (k : Int) < (L.length : Int) := by omega
        have hx2 : (k : Int) < (M.length : Int) := by omega
        by_cases he : L[k] = M[k]
        · have HEQ := Lib.hid (show L[k]? = M[k]? by rw [List.getElem?_eq_getElem hlt, List.getElem?_eq_getElem hltM, he])
          rw [← he] at hcell2
          clear he
          generalize L[k] = x at *
          go_wp2_with fail
          go_quiet (fail)
          go_wp2_with fail
          go_roundw
          case rel => exact ⟨k + 1, by omega, by go_num, (fun j hj => by
            by_cases h : j < k
            · exact HE.out j h
            · obtain rfl : j = k := by omega
              exact HEQ.out), by first | exact hbel | exact below_drewN hbel _⟩
          case measure => simp [intOf]; omega
        · have HNE := Lib.hid (decide_eq_false (p := L = M) (fun h => he (by subst h; rfl)))
          have hne2 : (L[k] != M[k]) = true := by rw [bne_iff_ne]; exact he
          clear he
          generalize L[k] = x at *
          generalize M[k] = y at *
          go_wp2_with fail
          go_quiet (fail)
          go_wp2_with fail
          go_ret
          exact ⟨by rw [HNE.out]; rfl, by first | exact hbel | exact below_drewN hbel _⟩
      · obtain rfl : k = L.length := by omega
        have HEQ := Lib.hid (decide_eq_true (p := L = M) (by
          apply List.ext_getElem? 
          intro j
          by_cases hj : j < L.length
          · exact HE.out j hj
          · rw [List.getElem?_eq_none (by omega), List.getElem?_eq_none (by have := HL.out; omega)]))
        clear hr hs
        go_wp2_with fail
        go_ret
        exact ⟨by rw [HEQ.out]; rfl, hbel⟩
  · have hne : ((L.length : Int) != (M.length : Int)) = true := by simp; omega
    have HNE := Lib.hid (decide_eq_false (p := L = M) (fun h => hlen (by rw [h])))
    clear hlen
    go_enter Try.func57, Try.ntmps57
    go_wp2_with fail
    go_ret
    exact ⟨by rw [HNE.out]; rfl, Below.refl _ _⟩

theorem SlV.take {w : World} {a : Option Addr} {xs : List Value} (h : SlV w a xs) (k : Nat) : SlV w a (xs.take k) := by
  rcases h with h | ⟨b, off, ha, hlt, hc⟩
  · subst h; exact .inl (by simp)
  · exact .inr ⟨b, off, ha, hlt, fun i u hi => by
      rw [List.getElem?_take] at hi
      split at hi
      · exact hc i u hi
      · cases hi⟩

theorem slv_block {w w' : World} {g : Nat} {xs : List Value} (h : SlV w (some ⟨g, 0, none⟩) xs) (hb : w'.heap[g]? = w.heap[g]?) (hl : g < w'.heap.size) : SlV w' (some ⟨g, 0, none⟩) xs := by
  rcases h with h | ⟨b, off, ha, hlt, hc⟩
  · exact .inl h
  · injection ha with ha
    injection ha with h1 h2
    subst h1 h2
    exact .inr ⟨g, 0, rfl, hl, fun i u hi => (World.cell?_of_block (a := ⟨g, 0 + i, none⟩) hb).trans (hc i u hi)⟩

set_option maxRecDepth 100000 in
set_option maxHeartbeats 3200000 in
theorem spec_l3Minimal (G : List Int) (a : Option Addr) (cap : Nat) (w : World) (hr : SlV w a (G.map (Value.int .i64))) (hok : okG G = true) :
    Calls Try.prog 58 #[.slice a G.length cap] w (SlPost (minL G) w) := by
  obtain ⟨i0, hi, hz0, hz1, hz2⟩ := info_parts infoIntL
  obtain ⟨hG, hl1, hl2⟩ := okG_iff.1 hok
  have hown0 : (w.alloc (.cells #[] 3)).ownsRow w.heap.size 3 1 (.slice (some ⟨w.heap.size, 0, none⟩) 0 0) 0 [] := World.ownsRow_lit w #[] 0 (Nat.le_refl _) (by simp) rfl
  have hbel0 : Below w.heap.size w (w.alloc (.cells #[] 3)) := (Below.refl _ _).alloc (Nat.le_refl _) _
  have c1 := spec_SortList G a cap _ (hr.below hbel0) (by omega)
  have hm : minL G = minOf (sortL G) := rfl
  have hSl := sortL_length_le G
  have hSa := (sortL_spec G).1
  have hSb : ∀ x ∈ sortL G, 1 ≤ x ∧ x ≤ 60 := fun x hx => hG x (((sortL_spec G).2 x).1 hx)
  clear hr hok hG
  go_enter Try.func58, Try.ntmps58
  go_wp2_with fail
  refine c1.mono ?_
  rintro e w1 ⟨g1, k1, rfl, ho1, hb1⟩
  have hown1 := owns_below hown0 hb1
  have hbel1 := hbel0.trans (hb1.mono hbel0.size)
  obtain ⟨a1, c1', e1, -, -, hs1, -⟩ := SlV.of_owns ho1
  cases e1
  have hg1 := (owns_facts ho1).1
  have hk1 := (owns_facts ho1).2.2.1
  have hgl := (owns_facts ho1).2.1
  have HM := Lib.hid hm
  have HA := Lib.hid hSa
  have HB := Lib.hid hSb
  clear c1 ho1 hb1 hown0 hbel0 hm hSa hSb
  generalize sortL G = S at *
  go_wp2_with fail
  go_loopw [3, 5] (fun v i wr => ∃ (k q c : Nat) (M : List Int), k ≤ S.length ∧ i = .int .i64 (k : Int) ∧ M = ((S.take k).filter fun x => !sumB (S.filter fun y => decide (y < x)) x.toNat) ∧ M.length ≤ k ∧ v = .slice (some ⟨q, 0, none⟩) M.length c ∧
      wr.ownsRow w.heap.size 3 1 (.slice (some ⟨q, 0, none⟩) M.length c) M.length (M.map (Value.int .i64)) ∧ q ≠ g1 ∧ SlV wr (some ⟨g1, 0, none⟩) (S.map (Value.int .i64)) ∧ g1 < wr.heap.size ∧ Below w.heap.size w wr) (fun _ i _ => S.length - (intOf i).toNat)
  case atStart => exact ⟨0, w.heap.size, 0, [], Nat.zero_le _, rfl, by simp, by simp, rfl, hown1, by simp at hg1; omega, hs1, hgl, hbel1⟩
  case round =>
    clear hown1 hs1 hbel1 hgl
    obtain ⟨k, q, c, M, hk, rfl, hMe, hMk, rfl, hown, hne, hs, hgl, hbel⟩ := hrel
    have HMe := Lib.hid hMe
    clear hMe
    by_cases hlt : k < S.length
    · obtain ⟨b, off, e2, hbs, hc⟩ := hs.open (by intro h; rw [List.map_eq_nil_iff] at h; subst h; simp at hlt)
      cases e2
      have hcell : wr.cell? ⟨g1, k, none⟩ = some (.int .i64 S[k]) := by have := hc k (.int .i64 S[k]) (by simp [hlt]); simpa using this
      obtain ⟨X, hX⟩ : ∃ X : Nat, S[k] = (X : Int) := ⟨(S[k]).toNat, by have := HB.out S[k] (List.getElem_mem hlt); omega⟩
      have hXb := HB.out S[k] (List.getElem_mem hlt)
      have hstep := minOf_take HA.out k hlt
      rw [← HMe.out, hX, Int.toNat_natCast] at hstep
      rw [hX] at hcell hXb
      have HP := Lib.hid hstep
      have hsz := hbel.size
      have hk3 : (0 : Int) ≤ (k : Int) := by omega
      have hk4 : (k : Int) < (S.length : Int) := by omega
      clear hc hstep hX
      by_cases hk0 : k = 0
      · subst hk0
        have HMN : Hid (M ++ [(X : Int)] = (S.take (0 + 1)).filter fun x => !sumB (S.filter fun y => decide (y < x)) x.toNat) := Lib.hid (by
          rw [HP.out, if_neg]
          rw [List.take_zero, sumB_iff]
          intro h
          have := isSum_nil h
          omega)
        have hsz2 := hsz
        go_wp2_with fail
        go_quiet (fail)
        have hbelq := below_drewN hbel nq
        have hownq : (wr.drewN nq).ownsRow w.heap.size 3 1 (.slice (some ⟨q, 0, none⟩) M.length c) M.length (M.map (Value.int .i64)) := hown
        have hsq : SlV (wr.drewN nq) (some ⟨g1, 0, none⟩) (S.map (Value.int .i64)) := hs
        clear hown hs
        go_wp2_with (at_builtin; refine wpList_append_lies _ rfl _ _ 22 rfl w.heap.size 3 i0 (Value.int .i64 0) 1 8 Try.underlying22 hi hz0 hz1 hz2 rfl (by decide) (.slice (some ⟨q, 0, none⟩) M.length c) M.length (M.map (Value.int .i64)) rfl (hownq.alloc _) ⟨(wr.drewN nq).heap.size, 0, none⟩ 1 1 [.int .i64 (X : Int)] rfl rfl (World.news_of_block (cs := #[.int .i64 (X : Int)]) (t := 3) (fr := (0, 0)) (heap_alloc_new (wr.drewN nq) _)) (by simp [Value.oneCell']) (by omega) (by unfold maxLen; omega) (by omega) (by simp; omega) _ rfl ?_; intro q3 c3 w3 hown3 hgr3 hat3 hlt3)
        have hb3 := (hbelq.alloc hsz2 _).grown hgr3 (by simp; omega) (fun j hj => by simp [Value.ownBlock] at hj; have := (owns_facts hownq).1; omega)
        have hblk : w3.heap[g1]? = (wr.drewN nq).heap[g1]? := (hgr3.block g1 (by simp; omega) (by simp [Value.ownBlock]; omega)).trans (Below.heap_alloc (wr.drewN nq) _ g1 hgl)
        have hs3 := slv_block hsq hblk (by have := hgr3.size; simp at this; omega)
        have hgl3 : g1 < w3.heap.size := by have := hgr3.size; simp at this; omega
        have hq3 : q3 ≠ g1 := by
          rcases hat3 with h | h
          · simp [Value.ownBlock] at h; omega
          · simp at h; omega
        have HO := Lib.hid hown3
        have HS3 := Lib.hid hs3
        clear hown3 hs3 hownq hgr3 hblk
        go_wp2_with fail
        go_roundw
        case rel => exact ⟨0 + 1, q3, c3, M ++ [(X : Int)], by omega, by go_num, by rw [HMN.out], by rw [List.length_append, List.length_singleton]; omega, by rw [List.length_append, List.length_singleton], by have := HO.out; simpa using this, hq3, HS3.out, hgl3, hb3⟩
        case measure => simp [intOf]; omega
      · have htl : (S.take k).length = k := by rw [List.length_take]; omega
        have ct := fun wq (hq : SlV wq (some ⟨g1, 0, none⟩) (S.map (Value.int .i64))) => spec_l3Table (S.take k) (some ⟨g1, 0, none⟩) k1 X wq (by rw [List.map_take]; exact hq.take k) (by omega) (fun x hx => (HB.out x (List.mem_of_mem_take hx)).1) (by omega)
        rw [htl] at ct
        have hkb : ((k : Int) == 0) = false := by rw [beq_eq_false_iff_ne]; omega
        have ct2 : ∀ w', (w'.cell? ⟨g1, k, none⟩ = some (.int .i64 (X : Int)) ∧ Below wr.heap.size wr w') → Calls Try.prog 51 #[.slice (some ⟨g1, 0, none⟩) k k1, .int .i64 (X : Int)] w' fun e w2 => ∃ v, e = .returned v ∧ w2.ownsRow w'.heap.size 4 1 v (X + 1) (tabL (S.take k) (X + 1)) ∧ Below w'.heap.size w' w2 := fun w' h => ct w' (hs.below h.2)
        have hk2 : (k : Int) ≤ (k1 : Int) := by omega
        have hX0 : (0 : Int) ≤ (X : Int) := by omega
        have hX1 : (X : Int) < (X : Int) + 1 := by omega
        have h0 : Hid (wr.cell? ⟨g1, k, none⟩ = some (.int .i64 (X : Int)) ∧ Below wr.heap.size wr wr.drew) := Lib.hid ⟨hcell, (Below.refl _ _).drew⟩
        clear ct hcell htl
        go_wp2_with fail
        refine wp_region_held_drew (S := fun w' => w'.cell? ⟨g1, k, none⟩ = some (.int .i64 (X : Int)) ∧ Below wr.heap.size wr w') (by kernel_rfl) h0.out (fun hHeld => ?_)
        refine held_take 0 _ _ rfl (by kernel_rfl) (by kernel_rfl) (by kernel_rfl) (fun _ _ _ h => h) (by rfl) hHeld (fun w hSw => by (try dsimp only at hSw); go_simp; try with_reducible rfl) ?_
        (try simp only [Act.put, List.setIfInBounds_toArray, List.set_cons_zero, List.set_cons_succ, List.getElem_toArray, List.getElem_cons_zero])
        refine held_take 1 _ _ rfl (by kernel_rfl) (by kernel_rfl) (by kernel_rfl) (fun _ _ _ h => h) (by rfl) hHeld (fun w hSw => by (try dsimp only at hSw); go_simp; try with_reducible rfl) ?_
        (try simp only [Act.put, List.setIfInBounds_toArray, List.set_cons_zero, List.set_cons_succ, List.getElem_toArray, List.getElem_cons_succ, List.getElem_cons_zero])
        refine held_take 2 _ _ rfl (by kernel_rfl) (by kernel_rfl) (by kernel_rfl) (fun _ _ _ h => h) (by rfl) hHeld (fun w hSw => by (try dsimp only at hSw); go_simp; try with_reducible rfl) ?_
        (try simp only [Act.put, List.setIfInBounds_toArray, List.set_cons_zero, List.set_cons_succ, List.getElem_toArray, List.getElem_cons_succ, List.getElem_cons_zero])
        refine held_take 3 _ _ rfl (by kernel_rfl) (by kernel_rfl) (by kernel_rfl) (fun _ _ _ h => h) (by rfl) hHeld (fun w hSw => by (try dsimp only at hSw); go_simp; try with_reducible rfl) ?_
        (try simp only [Act.put, List.setIfInBounds_toArray, List.set_cons_zero, List.set_cons_succ, List.getElem_toArray, List.getElem_cons_succ, List.getElem_cons_zero])
        refine held_take 4 _ _ rfl (by kernel_rfl) (by kernel_rfl) (by kernel_rfl) (fun _ _ _ h => h) (by rfl) hHeld (fun w hSw => by (try dsimp only at hSw); go_simp; try with_reducible rfl) ?_
        (try simp only [Act.put, List.setIfInBounds_toArray, List.set_cons_zero, List.set_cons_succ, List.getElem_toArray, List.getElem_cons_succ, List.getElem_cons_zero])
        refine held_take 5 _ _ rfl (by kernel_rfl) (by kernel_rfl) (by kernel_rfl) (fun _ _ _ h => h) (by rfl) hHeld (fun w hSw => by (try dsimp only at hSw); go_simp; try with_reducible rfl) ?_
        (try simp only [Act.put, List.setIfInBounds_toArray, List.set_cons_zero, List.set_cons_succ, List.getElem_toArray, List.getElem_cons_succ, List.getElem_cons_zero])
        refine held_take 6 _ _ rfl (by kernel_rfl) (by kernel_rfl) (by kernel_rfl) (fun _ _ _ h => h) (by rfl) hHeld (fun w hSw => by (try dsimp only at hSw); go_simp; try with_reducible rfl) ?_
        (try simp only [Act.put, List.setIfInBounds_toArray, List.set_cons_zero, List.set_cons_succ, List.getElem_toArray, List.getElem_cons_succ, List.getElem_cons_zero])
        refine held_take 7 _ _ rfl (by kernel_rfl) (by kernel_rfl) (by kernel_rfl) (fun _ _ _ h => h) (by rfl) hHeld (fun w hSw => by (try dsimp only at hSw); go_simp; try with_reducible rfl) ?_
        (try simp only [Act.put, List.setIfInBounds_toArray, List.set_cons_zero, List.set_cons_succ, List.getElem_toArray, List.getElem_cons_succ, List.getElem_cons_zero])
        refine held_take 8 _ _ rfl (by kernel_rfl) (by kernel_rfl) (by kernel_rfl) (fun _ _ _ h => h) (by rfl) hHeld (fun w hSw => by (try dsimp only at hSw); go_simp; try with_reducible rfl) ?_
        (try simp only [Act.put, List.setIfInBounds_toArray, List.set_cons_zero, List.set_cons_succ, List.getElem_toArray, List.getElem_cons_succ, List.getElem_cons_zero])
        refine held_take 9 _ _ rfl (by kernel_rfl) (by kernel_rfl) (by kernel_rfl) (fun _ _ _ h => h) (by rfl) hHeld (fun w hSw => by (try dsimp only at hSw); go_simp; try with_reducible rfl) ?_
        (try simp only [Act.put, List.setIfInBounds_toArray, List.set_cons_zero, List.set_cons_succ, List.getElem_toArray, List.getElem_cons_succ, List.getElem_cons_zero])
        refine held_take 11 _ _ rfl (by kernel_rfl) (by kernel_rfl) (by kernel_rfl) (fun _ _ _ h => h) (by rfl) hHeld (fun w hSw => by (try dsimp only at hSw); go_simp; try with_reducible rfl) ?_
        (try simp only [Act.put, List.setIfInBounds_toArray, List.set_cons_zero, List.set_cons_succ, List.getElem_toArray, List.getElem_cons_succ, List.getElem_cons_zero])
        refine held_take 12 _ _ rfl (by kernel_rfl) (by kernel_rfl) (by kernel_rfl) (fun _ _ _ h => h) (by rfl) hHeld (fun w hSw => by (try dsimp only at hSw); go_simp; try with_reducible rfl) ?_
        (try simp only [Act.put, List.setIfInBounds_toArray, List.set_cons_zero, List.set_cons_succ, List.getElem_toArray, List.getElem_cons_succ, List.getElem_cons_zero])
        refine held_take 13 _ _ rfl (by kernel_rfl) (by kernel_rfl) (by kernel_rfl) (fun _ _ _ h => h) (by rfl) hHeld (fun w hSw => by (try dsimp only at hSw); go_simp; try with_reducible rfl) ?_
        (try simp only [Act.put, List.setIfInBounds_toArray, List.set_cons_zero, List.set_cons_succ, List.getElem_toArray, List.getElem_cons_succ, List.getElem_cons_zero])
        refine held_take 14 _ _ rfl (by kernel_rfl) (by kernel_rfl) (by kernel_rfl) (fun _ _ _ h => h) (by rfl) hHeld (fun w hSw => by (try dsimp only at hSw); go_simp; try with_reducible rfl) ?_
        (try simp only [Act.put, List.setIfInBounds_toArray, List.set_cons_zero, List.set_cons_succ, List.getElem_toArray, List.getElem_cons_succ, List.getElem_cons_zero])
        refine wpAnyH_ready (rs := [10]) (by kernel_rfl) (by simp) ?_
        refine AllReadyH.cons rfl (fun K hK => ?_) AllReadyH.nil
        rw [if_pos (by rfl)]
        go_wp2_with (first | (go_at_call 51; (with_reducible refine (ct2 _ hHeld).mono ?_); rintro e w2 ⟨v, rfl, ho, hb2⟩; obtain ⟨g, cg, rfl, ht⟩ := tab_last ho; have hT := ht X (Nat.le_refl _); clear ht ho))
        refine hK.out _ _ (held_keep hgl hHeld hb2) (fun hHeld2 => ?_)
        clear hK K
        (try simp only [Act.put, List.setIfInBounds_toArray, List.set_cons_zero, List.set_cons_succ, List.getElem_toArray, List.getElem_cons_succ, List.getElem_cons_zero])
        refine held_take 15 _ _ rfl (by kernel_rfl) (by kernel_rfl) (by kernel_rfl) (fun _ _ _ h => h) (by rfl) hHeld2 (fun w hSw => by (try dsimp only at hSw); go_simp; try with_reducible rfl) ?_
        (try simp only [Act.put, List.setIfInBounds_toArray, List.set_cons_zero, List.set_cons_succ, List.getElem_toArray, List.getElem_cons_succ, List.getElem_cons_zero])
        refine wpAnyH_ready (rs := [16]) (by kernel_rfl) (by simp) ?_
        refine AllReadyH.cons rfl (fun K hK => ?_) AllReadyH.nil
        rw [if_pos (by rfl)]
        go_wp2_with fail
        refine hK.out _ _ hHeld2 (fun hHeld3 => ?_)
        clear hK K
        (try simp only [Act.put, List.setIfInBounds_toArray, List.set_cons_zero, List.set_cons_succ, List.getElem_toArray, List.getElem_cons_succ, List.getElem_cons_zero])
        refine held_take 17 _ _ rfl (by kernel_rfl) (by kernel_rfl) (by kernel_rfl) (fun _ _ _ h => h) (by rfl) hHeld3 (fun w hSw => by (try dsimp only at hSw); go_simp; try with_reducible rfl) ?_
        (try simp only [Act.put, List.setIfInBounds_toArray, List.set_cons_zero, List.set_cons_succ, List.getElem_toArray, List.getElem_cons_succ, List.getElem_cons_zero])
        refine held_take 18 _ _ rfl (by kernel_rfl) (by kernel_rfl) (by kernel_rfl) (fun _ _ _ h => h) (by rfl) hHeld3 (fun w hSw => by (try dsimp only at hSw); go_simp; try with_reducible rfl) ?_
        (try simp only [Act.put, List.setIfInBounds_toArray, List.set_cons_zero, List.set_cons_succ, List.getElem_toArray, List.getElem_cons_succ, List.getElem_cons_zero])
        refine wpAnyH_done (by kernel_rfl) ?_ _
        have hsz2 := Nat.le_trans hsz hHeld3.2.size
        have hbel2 := hbel.trans (hHeld3.2.mono hsz)
        have hown2 := owns_below hown hHeld3.2
        have hs2 := hs.below hHeld3.2
        have hgl2 := Nat.lt_of_lt_of_le hgl hHeld3.2.size
        have hcell := hHeld3.1
        clear hHeld hHeld2 hHeld3 ct2 h0 hT hown hs
        generalize sumB (S.take k) X = bX at *
        cases bX
        · have HMN : Hid (M ++ [(X : Int)] = (S.take (k + 1)).filter fun x => !sumB (S.filter fun y => decide (y < x)) x.toNat) := Lib.hid (by rw [HP.out]; rfl)
          go_wp2_with (at_builtin; refine wpList_append_lies _ rfl _ _ 22 rfl w.heap.size 3 i0 (Value.int .i64 0) 1 8 Try.underlying22 hi hz0 hz1 hz2 rfl (by decide) (.slice (some ⟨q, 0, none⟩) M.length c) M.length (M.map (Value.int .i64)) rfl (hown2.alloc _) ⟨w2.heap.size, 0, none⟩ 1 1 [.int .i64 (X : Int)] rfl rfl (World.news_of_block (cs := #[.int .i64 (X : Int)]) (t := 3) (fr := (0, 0)) (heap_alloc_new w2 _)) (by simp [Value.oneCell']) (by omega) (by unfold maxLen; omega) (by omega) (by simp; omega) _ rfl ?_; intro q3 c3 w3 hown3 hgr3 hat3 hlt3)
          have hb3 := (hbel2.alloc hsz2 _).grown hgr3 (by simp; omega) (fun j hj => by simp [Value.ownBlock] at hj; have := (owns_facts hown2).1; omega)
          have hblk : w3.heap[g1]? = w2.heap[g1]? := (hgr3.block g1 (by simp; omega) (by simp [Value.ownBlock]; omega)).trans (Below.heap_alloc w2 _ g1 hgl2)
          have hs3 := slv_block hs2 hblk (by have := hgr3.size; simp at this; omega)
          have hgl3 : g1 < w3.heap.size := by have := hgr3.size; simp at this; omega
          have hq3 : q3 ≠ g1 := by
            rcases hat3 with h | h
            · simp [Value.ownBlock] at h; omega
            · simp at h; omega
          have HO := Lib.hid hown3
          have HS3 := Lib.hid hs3
          clear hown3 hs3 hown2 hgr3 hblk
          go_wp2_with fail
          go_roundw
          case rel => exact ⟨k + 1, q3, c3, M ++ [(X : Int)], by omega, by go_num, by rw [HMN.out], by rw [List.length_append, List.length_singleton]; omega, by rw [List.length_append, List.length_singleton], by have := HO.out; simpa using this, hq3, HS3.out, hgl3, hb3⟩
          case measure => simp [intOf]; omega
        · have HMN : Hid (M = (S.take (k + 1)).filter fun x => !sumB (S.filter fun y => decide (y < x)) x.toNat) := Lib.hid (by rw [HP.out]; simp)
          have HO := Lib.hid hown2
          have HS := Lib.hid hs2
          clear hown2 hs2
          go_wp2_with fail
          go_roundw
          case rel => exact ⟨k + 1, q, c, M, by omega, by go_num, HMN.out, by omega, rfl, HO.out, hne, HS.out, hgl2, hbel2⟩
          case measure => simp [intOf]; omega
    · obtain rfl : k = S.length := by omega
      have HE : Hid (minL G = M) := Lib.hid (by rw [HM.out, HMe.out, List.take_of_length_le (Nat.le_refl _)]; rfl)
      clear hs
      go_wp2_with fail
      go_ret
      exact ⟨_, rfl, by rw [HE.out]; exact hown, hbel⟩
end Go.Proofs.Ytnbnkjmellmmlaa

/-
  CONTRACTS of the reference's chapter 3: l3Ends, IsSemigroup.
-/
namespace Go.Proofs.Ytnbnkjmellmmlaa
open Go Go.RowKit

set_option maxRecDepth 100000 in
set_option maxHeartbeats 800000 in
theorem spec_l3Ends (G : List Int) (a : Option Addr) (cap : Nat) (w : World) (hr : SlV w a (G.map (Value.int .i64))) (hok : okG G = true) :
    Calls Try.prog 59 #[.slice a G.length cap] w fun e w' => e = .returned (.bool (endsB G)) ∧ Below w.heap.size w w' := by
  obtain ⟨hG, hl1, hl2⟩ := okG_iff.1 hok
  obtain ⟨b, off, rfl, hbs, hc⟩ := hr.open (by intro h; rw [List.map_eq_nil_iff] at h; subst h; simp at hl1)
  have hcell : w.cell? ⟨b, off, none⟩ = some (.int .i64 G[0]) := by have := hc 0 (.int .i64 G[0]) (by simp [show 0 < G.length by omega]); simpa using this
  have hx := hG G[0] (List.getElem_mem (by omega))
  obtain ⟨m, hm⟩ : ∃ m : Nat, G[0] = (m : Int) := ⟨G[0].toNat, by omega⟩
  have hmG : (m : Int) ∈ G := by rw [← hm]; exact List.getElem_mem _
  rw [hm] at hcell hx
  have HW := Lib.hid (endsB_window hmG (by omega))
  have ct := spec_l3Table G (some ⟨b, off, none⟩) cap 260 w hr (by omega) (okG_pos hok) (by omega)
  clear hm hmG hG hok hc hr
  go_enter Try.func59, Try.ntmps59
  go_wp2_with fail
  refine ct.mono ?_
  rintro e w1 ⟨v, rfl, ho, hb1⟩
  obtain ⟨g, c, rfl, ht⟩ := tab_last ho
  have hcell1 : w1.cell? ⟨b, off, none⟩ = some (.int .i64 (m : Int)) := (hb1.cell (p := ⟨b, off, none⟩) hbs).trans hcell
  have HT := Lib.hid ht
  clear ct ho ht hcell
  go_wp2_with fail
  go_loop [4] (fun i => ∃ n : Nat, 200 ≤ n ∧ n ≤ 200 + m ∧ i = .int .i64 (n : Int) ∧ ∀ j, 200 ≤ j → j < n → sumB G j = true) (fun i => 260 - (intOf i).toNat)
  case atStart => exact ⟨200, Nat.le_refl _, by omega, rfl, fun j h1 h2 => by omega⟩
  case round =>
    obtain ⟨n, hn1, hn2, rfl, hal⟩ := hrel
    have HA := Lib.hid hal
    clear hal
    by_cases hlt : n < 200 + m
    · have hcn := HT.out n (by omega)
      have hi0 : (0 : Int) ≤ (n : Int) := by omega
      have hi1 : (n : Int) < (261 : Int) := by omega
      have hlt' : (n : Int) < 200 + (m : Int) := by omega
      cases hs : sumB G n
      · have HR : Hid (endsB G = false) := Lib.hid (by
          rw [Bool.eq_false_iff]; intro h
          have := HW.out.1 h n hn1 hlt
          rw [hs] at this; cases this)
        rw [hs] at hcn
        clear hs
        go_wp2_with fail
        go_ret
        exact ⟨by rw [HR.out]; rfl, hb1⟩
      · have HN : Hid (∀ j, 200 ≤ j → j < n + 1 → sumB G j = true) := Lib.hid (fun j h1 h2 => by
          by_cases h : j < n
          · exact HA.out j h1 h
          · obtain rfl : j = n := by omega
            exact hs)
        rw [hs] at hcn
        clear hs
        go_wp2_with fail
        go_round
        case rel => exact ⟨n + 1, by omega, by omega, by go_num, HN.out⟩
        case measure => simp [intOf]; omega
    · obtain rfl : n = 200 + m := by omega
      have HR : Hid (endsB G = true) := Lib.hid (HW.out.2 HA.out)
      have hnl : ¬ (((200 + m : Nat) : Int) < 200 + (m : Int)) := by omega
      go_wp2_with fail
      go_ret
      exact ⟨by rw [HR.out]; rfl, hb1⟩

theorem isSgB_false {G : List Int} (h : okG G = false ∨ decide (G.length ≤ 12) = false ∨ ascB G = false ∨ decide (gcdL G = 1) = false ∨ decide (minL G = G) = false) : isSgB G = false := by
  unfold isSgB
  rcases h with h | h | h | h | h <;> simp [h]
theorem isSgB_last {G : List Int} (h1 : okG G = true) (h2 : decide (G.length ≤ 12) = true) (h3 : ascB G = true) (h4 : decide (gcdL G = 1) = true) (h5 : decide (minL G = G) = true) : isSgB G = endsB G := by
  unfold isSgB; rw [h1, h2, h3, h4, h5]; rfl

set_option maxRecDepth 100000 in
set_option maxHeartbeats 1600000 in
theorem spec_IsSemigroup (G : List Int) (a : Option Addr) (cap : Nat) (w : World) (hr : SlV w a (G.map (Value.int .i64))) (hb : G.length ≤ 1048576) :
    Calls Try.prog 20 #[.agg #[.slice a G.length cap]] w fun e w' => e = .returned (.bool (isSgB G)) ∧ Below w.heap.size w w' := by
  obtain ⟨W, hW⟩ : ∃ W, W = w.alloc (.cells #[.slice a G.length cap] 30) := ⟨_, rfl⟩
  have hWs : W.heap.size = w.heap.size + 1 := by rw [hW]; simp
  have hWb : Below w.heap.size w W := by rw [hW]; exact (Below.refl _ _).alloc (Nat.le_refl _) _
  have hWc : W.cell? ⟨w.heap.size, 0, none⟩ = some (.slice a G.length cap) := by rw [hW]; exact (Arr.new w 30 [.slice a G.length cap]).cell 0
  have hrW := hr.below hWb
  have hmax : G.length ≤ maxLen := by unfold maxLen; omega
  have c1 : ∀ w', (w'.cell? ⟨w.heap.size, 0, none⟩ = some (.slice a G.length cap) ∧ Below W.heap.size W w') → Calls Try.prog 48 #[.slice a G.length cap] w' fun e w2 => e = .returned (.bool (okG G)) ∧ w2 = w' := fun w' h => spec_l3Gens G a cap w' (hrW.below h.2) hb
  have c2 : ∀ w', (w'.cell? ⟨w.heap.size, 0, none⟩ = some (.slice a G.length cap) ∧ Below W.heap.size W w') → Calls Try.prog 56 #[.slice a G.length cap] w' fun e w2 => e = .returned (.bool (ascB G)) ∧ Below w'.heap.size w' w2 := fun w' h => spec_IsAscending G a cap w' (hrW.below h.2) hmax
  have c3 : ∀ w', (w'.cell? ⟨w.heap.size, 0, none⟩ = some (.slice a G.length cap) ∧ Below W.heap.size W w') → Calls Try.prog 50 #[.slice a G.length cap] w' fun e w2 => e = .returned (.int .i64 (gcdL G)) ∧ w2 = w' := fun w' h => spec_GcdOfList G a cap w' (hrW.below h.2) hmax
  have c4 : okG G = true → ∀ w', (w'.cell? ⟨w.heap.size, 0, none⟩ = some (.slice a G.length cap) ∧ Below W.heap.size W w') → Calls Try.prog 58 #[.slice a G.length cap] w' (SlPost (minL G) w') := fun hok w' h => spec_l3Minimal G a cap w' (hrW.below h.2) hok
  have c6 : okG G = true → ∀ w', (w'.cell? ⟨w.heap.size, 0, none⟩ = some (.slice a G.length cap) ∧ Below W.heap.size W w') → Calls Try.prog 59 #[.slice a G.length cap] w' fun e w2 => e = .returned (.bool (endsB G)) ∧ Below w'.heap.size w' w2 := fun hok w' h => spec_l3Ends G a cap w' (hrW.below h.2) hok
  have HRW := Lib.hid hrW
  have hbl : w.heap.size < W.heap.size := by omega
  have hWb' := hWb
  have hml := minL_length_le G
  have hgb := gcdL_bounds G
  clear hr hrW
  have HW0 : Hid (W.drew.cell? ⟨w.heap.size, 0, none⟩ = some (.slice a G.length cap) ∧ Below W.heap.size W W.drew) := Lib.hid ⟨hWc, (Below.refl _ _).drew⟩
  have HWW := Lib.hid hW
  clear hW hWc
  cases h0 : okG G
  · have HR := Lib.hid (isSgB_false (G := G) (.inl h0))
    rw [h0] at c1
    clear c4 c6
    clear h0
    go_enter Try.func20, Try.ntmps20
    go_wp2_with fail
    rw [← HWW.out]
    refine wp_region_held_drew (S := fun w' => w'.cell? ⟨w.heap.size, 0, none⟩ = some (.slice a G.length cap) ∧ Below W.heap.size W w') (by kernel_rfl) HW0.out (fun hHeld => ?_)
    refine held_take 0 _ _ rfl (by kernel_rfl) (by kernel_rfl) (by kernel_rfl) (fun _ _ _ h => h) (by rfl) hHeld (fun w hSw => by (try dsimp only at hSw); go_simp; try with_reducible rfl) ?_
    (try simp only [Act.put, List.setIfInBounds_toArray, List.set_cons_zero, List.set_cons_succ, List.getElem_toArray, List.getElem_cons_zero])
    refine held_take 1 _ _ rfl (by kernel_rfl) (by kernel_rfl) (by kernel_rfl) (fun _ _ _ h => h) (by rfl) hHeld (fun w hSw => by (try dsimp only at hSw); go_simp; try with_reducible rfl) ?_
    (try simp only [Act.put, List.setIfInBounds_toArray, List.set_cons_zero, List.set_cons_succ, List.getElem_toArray, List.getElem_cons_succ, List.getElem_cons_zero])
    refine wpAnyH_ready (rs := [2]) (by kernel_rfl) (by simp) ?_
    refine AllReadyH.cons rfl (fun K hK => ?_) AllReadyH.nil
    rw [if_pos (by rfl)]
    go_wp2_with (first | (go_at_call 48; (with_reducible refine (c1 _ hHeld).mono ?_); rintro e w2 ⟨rfl, rfl⟩))
    refine hK.out _ _ (hHeld) (fun hHeld1 => ?_)
    clear hK K
    (try simp only [Act.put, List.setIfInBounds_toArray, List.set_cons_zero, List.set_cons_succ, List.getElem_toArray, List.getElem_cons_succ, List.getElem_cons_zero])
    refine held_take 3 _ _ rfl (by kernel_rfl) (by kernel_rfl) (by kernel_rfl) (fun _ _ _ h => h) (by rfl) hHeld1 (fun w hSw => by (try dsimp only at hSw); go_simp; try with_reducible rfl) ?_
    (try simp only [Act.put, List.setIfInBounds_toArray, List.set_cons_zero, List.set_cons_succ, List.getElem_toArray, List.getElem_cons_succ, List.getElem_cons_zero])
    refine held_skip 4 _ rfl (by kernel_rfl) (by kernel_rfl) (by kernel_rfl) (fun _ _ _ h => h) (by rfl) hHeld1 ?_
    (try simp only [Act.put, List.setIfInBounds_toArray, List.set_cons_zero, List.set_cons_succ, List.getElem_toArray, List.getElem_cons_succ, List.getElem_cons_zero])
    refine held_skip 5 _ rfl (by kernel_rfl) (by kernel_rfl) (by kernel_rfl) (fun _ _ _ h => h) (by rfl) hHeld1 ?_
    (try simp only [Act.put, List.setIfInBounds_toArray, List.set_cons_zero, List.set_cons_succ, List.getElem_toArray, List.getElem_cons_succ, List.getElem_cons_zero])
    refine held_skip 6 _ rfl (by kernel_rfl) (by kernel_rfl) (by kernel_rfl) (fun _ _ _ h => h) (by rfl) hHeld1 ?_
    (try simp only [Act.put, List.setIfInBounds_toArray, List.set_cons_zero, List.set_cons_succ, List.getElem_toArray, List.getElem_cons_succ, List.getElem_cons_zero])
    refine held_skip 7 _ rfl (by kernel_rfl) (by kernel_rfl) (by kernel_rfl) (fun _ _ _ h => h) (by rfl) hHeld1 ?_
    (try simp only [Act.put, List.setIfInBounds_toArray, List.set_cons_zero, List.set_cons_succ, List.getElem_toArray, List.getElem_cons_succ, List.getElem_cons_zero])
    refine held_take 8 _ _ rfl (by kernel_rfl) (by kernel_rfl) (by kernel_rfl) (fun _ _ _ h => h) (by rfl) hHeld1 (fun w hSw => by (try dsimp only at hSw); go_simp; try with_reducible rfl) ?_
    (try simp only [Act.put, List.setIfInBounds_toArray, List.set_cons_zero, List.set_cons_succ, List.getElem_toArray, List.getElem_cons_succ, List.getElem_cons_zero])
    refine held_take 9 _ _ rfl (by kernel_rfl) (by kernel_rfl) (by kernel_rfl) (fun _ _ _ h => h) (by rfl) hHeld1 (fun w hSw => by (try dsimp only at hSw); go_simp; try with_reducible rfl) ?_
    (try simp only [Act.put, List.setIfInBounds_toArray, List.set_cons_zero, List.set_cons_succ, List.getElem_toArray, List.getElem_cons_succ, List.getElem_cons_zero])
    refine held_skip 10 _ rfl (by kernel_rfl) (by kernel_rfl) (by kernel_rfl) (fun _ _ _ h => h) (by rfl) hHeld1 ?_
    (try simp only [Act.put, List.setIfInBounds_toArray, List.set_cons_zero, List.set_cons_succ, List.getElem_toArray, List.getElem_cons_succ, List.getElem_cons_zero])
    refine held_skip 11 _ rfl (by kernel_rfl) (by kernel_rfl) (by kernel_rfl) (fun _ _ _ h => h) (by rfl) hHeld1 ?_
    (try simp only [Act.put, List.setIfInBounds_toArray, List.set_cons_zero, List.set_cons_succ, List.getElem_toArray, List.getElem_cons_succ, List.getElem_cons_zero])
    refine held_skip 12 _ rfl (by kernel_rfl) (by kernel_rfl) (by kernel_rfl) (fun _ _ _ h => h) (by rfl) hHeld1 ?_
    (try simp only [Act.put, List.setIfInBounds_toArray, List.set_cons_zero, List.set_cons_succ, List.getElem_toArray, List.getElem_cons_succ, List.getElem_cons_zero])
    refine held_take 13 _ _ rfl (by kernel_rfl) (by kernel_rfl) (by kernel_rfl) (fun _ _ _ h => h) (by rfl) hHeld1 (fun w hSw => by (try dsimp only at hSw); go_simp; try with_reducible rfl) ?_
    (try simp only [Act.put, List.setIfInBounds_toArray, List.set_cons_zero, List.set_cons_succ, List.getElem_toArray, List.getElem_cons_succ, List.getElem_cons_zero])
    refine held_take 14 _ _ rfl (by kernel_rfl) (by kernel_rfl) (by kernel_rfl) (fun _ _ _ h => h) (by rfl) hHeld1 (fun w hSw => by (try dsimp only at hSw); go_simp; try with_reducible rfl) ?_
    (try simp only [Act.put, List.setIfInBounds_toArray, List.set_cons_zero, List.set_cons_succ, List.getElem_toArray, List.getElem_cons_succ, List.getElem_cons_zero])
    refine held_skip 15 _ rfl (by kernel_rfl) (by kernel_rfl) (by kernel_rfl) (fun _ _ _ h => h) (by rfl) hHeld1 ?_
    (try simp only [Act.put, List.setIfInBounds_toArray, List.set_cons_zero, List.set_cons_succ, List.getElem_toArray, List.getElem_cons_succ, List.getElem_cons_zero])
    refine held_skip 16 _ rfl (by kernel_rfl) (by kernel_rfl) (by kernel_rfl) (fun _ _ _ h => h) (by rfl) hHeld1 ?_
    (try simp only [Act.put, List.setIfInBounds_toArray, List.set_cons_zero, List.set_cons_succ, List.getElem_toArray, List.getElem_cons_succ, List.getElem_cons_zero])
    refine held_skip 17 _ rfl (by kernel_rfl) (by kernel_rfl) (by kernel_rfl) (fun _ _ _ h => h) (by rfl) hHeld1 ?_
    (try simp only [Act.put, List.setIfInBounds_toArray, List.set_cons_zero, List.set_cons_succ, List.getElem_toArray, List.getElem_cons_succ, List.getElem_cons_zero])
    refine held_skip 18 _ rfl (by kernel_rfl) (by kernel_rfl) (by kernel_rfl) (fun _ _ _ h => h) (by rfl) hHeld1 ?_
    (try simp only [Act.put, List.setIfInBounds_toArray, List.set_cons_zero, List.set_cons_succ, List.getElem_toArray, List.getElem_cons_succ, List.getElem_cons_zero])
    refine held_take 19 _ _ rfl (by kernel_rfl) (by kernel_rfl) (by kernel_rfl) (fun _ _ _ h => h) (by rfl) hHeld1 (fun w hSw => by (try dsimp only at hSw); go_simp; try with_reducible rfl) ?_
    (try simp only [Act.put, List.setIfInBounds_toArray, List.set_cons_zero, List.set_cons_succ, List.getElem_toArray, List.getElem_cons_succ, List.getElem_cons_zero])
    refine held_take 20 _ _ rfl (by kernel_rfl) (by kernel_rfl) (by kernel_rfl) (fun _ _ _ h => h) (by rfl) hHeld1 (fun w hSw => by (try dsimp only at hSw); go_simp; try with_reducible rfl) ?_
    (try simp only [Act.put, List.setIfInBounds_toArray, List.set_cons_zero, List.set_cons_succ, List.getElem_toArray, List.getElem_cons_succ, List.getElem_cons_zero])
    refine held_skip 21 _ rfl (by kernel_rfl) (by kernel_rfl) (by kernel_rfl) (fun _ _ _ h => h) (by rfl) hHeld1 ?_
    (try simp only [Act.put, List.setIfInBounds_toArray, List.set_cons_zero, List.set_cons_succ, List.getElem_toArray, List.getElem_cons_succ, List.getElem_cons_zero])
    refine held_skip 22 _ rfl (by kernel_rfl) (by kernel_rfl) (by kernel_rfl) (fun _ _ _ h => h) (by rfl) hHeld1 ?_
    (try simp only [Act.put, List.setIfInBounds_toArray, List.set_cons_zero, List.set_cons_succ, List.getElem_toArray, List.getElem_cons_succ, List.getElem_cons_zero])
    refine held_skip 23 _ rfl (by kernel_rfl) (by kernel_rfl) (by kernel_rfl) (fun _ _ _ h => h) (by rfl) hHeld1 ?_
    (try simp only [Act.put, List.setIfInBounds_toArray, List.set_cons_zero, List.set_cons_succ, List.getElem_toArray, List.getElem_cons_succ, List.getElem_cons_zero])
    refine held_skip 24 _ rfl (by kernel_rfl) (by kernel_rfl) (by kernel_rfl) (fun _ _ _ h => h) (by rfl) hHeld1 ?_
    (try simp only [Act.put, List.setIfInBounds_toArray, List.set_cons_zero, List.set_cons_succ, List.getElem_toArray, List.getElem_cons_succ, List.getElem_cons_zero])
    refine held_skip 25 _ rfl (by kernel_rfl) (by kernel_rfl) (by kernel_rfl) (fun _ _ _ h => h) (by rfl) hHeld1 ?_
    (try simp only [Act.put, List.setIfInBounds_toArray, List.set_cons_zero, List.set_cons_succ, List.getElem_toArray, List.getElem_cons_succ, List.getElem_cons_zero])
    refine held_skip 26 _ rfl (by kernel_rfl) (by kernel_rfl) (by kernel_rfl) (fun _ _ _ h => h) (by rfl) hHeld1 ?_
    (try simp only [Act.put, List.setIfInBounds_toArray, List.set_cons_zero, List.set_cons_succ, List.getElem_toArray, List.getElem_cons_succ, List.getElem_cons_zero])
    refine held_take 27 _ _ rfl (by kernel_rfl) (by kernel_rfl) (by kernel_rfl) (fun _ _ _ h => h) (by rfl) hHeld1 (fun w hSw => by (try dsimp only at hSw); go_simp; try with_reducible rfl) ?_
    (try simp only [Act.put, List.setIfInBounds_toArray, List.set_cons_zero, List.set_cons_succ, List.getElem_toArray, List.getElem_cons_succ, List.getElem_cons_zero])
    refine held_take 28 _ _ rfl (by kernel_rfl) (by kernel_rfl) (by kernel_rfl) (fun _ _ _ h => h) (by rfl) hHeld1 (fun w hSw => by (try dsimp only at hSw); go_simp; try with_reducible rfl) ?_
    (try simp only [Act.put, List.setIfInBounds_toArray, List.set_cons_zero, List.set_cons_succ, List.getElem_toArray, List.getElem_cons_succ, List.getElem_cons_zero])
    refine held_skip 29 _ rfl (by kernel_rfl) (by kernel_rfl) (by kernel_rfl) (fun _ _ _ h => h) (by rfl) hHeld1 ?_
    (try simp only [Act.put, List.setIfInBounds_toArray, List.set_cons_zero, List.set_cons_succ, List.getElem_toArray, List.getElem_cons_succ, List.getElem_cons_zero])
    refine held_skip 30 _ rfl (by kernel_rfl) (by kernel_rfl) (by kernel_rfl) (fun _ _ _ h => h) (by rfl) hHeld1 ?_
    (try simp only [Act.put, List.setIfInBounds_toArray, List.set_cons_zero, List.set_cons_succ, List.getElem_toArray, List.getElem_cons_succ, List.getElem_cons_zero])
    refine held_skip 31 _ rfl (by kernel_rfl) (by kernel_rfl) (by kernel_rfl) (fun _ _ _ h => h) (by rfl) hHeld1 ?_
    (try simp only [Act.put, List.setIfInBounds_toArray, List.set_cons_zero, List.set_cons_succ, List.getElem_toArray, List.getElem_cons_succ, List.getElem_cons_zero])
    refine held_take 32 _ _ rfl (by kernel_rfl) (by kernel_rfl) (by kernel_rfl) (fun _ _ _ h => h) (by rfl) hHeld1 (fun w hSw => by (try dsimp only at hSw); go_simp; try with_reducible rfl) ?_
    (try simp only [Act.put, List.setIfInBounds_toArray, List.set_cons_zero, List.set_cons_succ, List.getElem_toArray, List.getElem_cons_succ, List.getElem_cons_zero])
    refine held_take 33 _ _ rfl (by kernel_rfl) (by kernel_rfl) (by kernel_rfl) (fun _ _ _ h => h) (by rfl) hHeld1 (fun w hSw => by (try dsimp only at hSw); go_simp; try with_reducible rfl) ?_
    (try simp only [Act.put, List.setIfInBounds_toArray, List.set_cons_zero, List.set_cons_succ, List.getElem_toArray, List.getElem_cons_succ, List.getElem_cons_zero])
    refine wpAnyH_done (by kernel_rfl) ?_ _
    have hbz := hWb'.trans (hHeld1.2.mono (by omega))
    clear hHeld hHeld1
    go_wp2_with fail
    go_ret
    exact ⟨by rw [HR.out]; rfl, hbz⟩
  · skip
    cases h1 : decide (G.length ≤ 12)
    · have HR := Lib.hid (isSgB_false (G := G) (.inr (.inl h1)))
      rw [h0] at c1
      have c4 := c4 h0
      have c6 := c6 h0
      have hd1 : decide ((G.length : Int) ≤ 12) = false := by rw [decide_eq_false_iff_not] at h1 ⊢; omega
      clear h0 h1
      go_enter Try.func20, Try.ntmps20
      go_wp2_with fail
      rw [← HWW.out]
      refine wp_region_held_drew (S := fun w' => w'.cell? ⟨w.heap.size, 0, none⟩ = some (.slice a G.length cap) ∧ Below W.heap.size W w') (by kernel_rfl) HW0.out (fun hHeld => ?_)
      refine held_take 0 _ _ rfl (by kernel_rfl) (by kernel_rfl) (by kernel_rfl) (fun _ _ _ h => h) (by rfl) hHeld (fun w hSw => by (try dsimp only at hSw); go_simp; try with_reducible rfl) ?_
      (try simp only [Act.put, List.setIfInBounds_toArray, List.set_cons_zero, List.set_cons_succ, List.getElem_toArray, List.getElem_cons_zero])
      refine held_take 1 _ _ rfl (by kernel_rfl) (by kernel_rfl) (by kernel_rfl) (fun _ _ _ h => h) (by rfl) hHeld (fun w hSw => by (try dsimp only at hSw); go_simp; try with_reducible rfl) ?_
      (try simp only [Act.put, List.setIfInBounds_toArray, List.set_cons_zero, List.set_cons_succ, List.getElem_toArray, List.getElem_cons_succ, List.getElem_cons_zero])
      refine wpAnyH_ready (rs := [2]) (by kernel_rfl) (by simp) ?_
      refine AllReadyH.cons rfl (fun K hK => ?_) AllReadyH.nil
      rw [if_pos (by rfl)]
      go_wp2_with (first | (go_at_call 48; (with_reducible refine (c1 _ hHeld).mono ?_); rintro e w2 ⟨rfl, rfl⟩))
      refine hK.out _ _ (hHeld) (fun hHeld1 => ?_)
      clear hK K
      (try simp only [Act.put, List.setIfInBounds_toArray, List.set_cons_zero, List.set_cons_succ, List.getElem_toArray, List.getElem_cons_succ, List.getElem_cons_zero])
      refine held_take 3 _ _ rfl (by kernel_rfl) (by kernel_rfl) (by kernel_rfl) (fun _ _ _ h => h) (by rfl) hHeld1 (fun w hSw => by (try dsimp only at hSw); go_simp; try with_reducible rfl) ?_
      (try simp only [Act.put, List.setIfInBounds_toArray, List.set_cons_zero, List.set_cons_succ, List.getElem_toArray, List.getElem_cons_succ, List.getElem_cons_zero])
      refine held_take 4 _ _ rfl (by kernel_rfl) (by kernel_rfl) (by kernel_rfl) (fun _ _ _ h => h) (by rfl) hHeld1 (fun w hSw => by (try dsimp only at hSw); go_simp; try with_reducible rfl) ?_
      (try simp only [Act.put, List.setIfInBounds_toArray, List.set_cons_zero, List.set_cons_succ, List.getElem_toArray, List.getElem_cons_succ, List.getElem_cons_zero])
      refine held_take 5 _ _ rfl (by kernel_rfl) (by kernel_rfl) (by kernel_rfl) (fun _ _ _ h => h) (by rfl) hHeld1 (fun w hSw => by (try dsimp only at hSw); go_simp; try with_reducible rfl) ?_
      (try simp only [Act.put, List.setIfInBounds_toArray, List.set_cons_zero, List.set_cons_succ, List.getElem_toArray, List.getElem_cons_succ, List.getElem_cons_zero])
      refine held_take 6 _ _ rfl (by kernel_rfl) (by kernel_rfl) (by kernel_rfl) (fun _ _ _ h => h) (by rfl) hHeld1 (fun w hSw => by (try dsimp only at hSw); go_simp; try with_reducible rfl) ?_
      (try simp only [Act.put, List.setIfInBounds_toArray, List.set_cons_zero, List.set_cons_succ, List.getElem_toArray, List.getElem_cons_succ, List.getElem_cons_zero])
      refine held_take 7 _ _ rfl (by kernel_rfl) (by kernel_rfl) (by kernel_rfl) (fun _ _ _ h => h) (by rfl) hHeld1 (fun w hSw => by (try dsimp only at hSw); go_simp; try with_reducible rfl) ?_
      (try simp only [Act.put, List.setIfInBounds_toArray, List.set_cons_zero, List.set_cons_succ, List.getElem_toArray, List.getElem_cons_succ, List.getElem_cons_zero])
      refine held_take 8 _ _ rfl (by kernel_rfl) (by kernel_rfl) (by kernel_rfl) (fun _ _ _ h => h) (by rfl) hHeld1 (fun w hSw => by (try dsimp only at hSw); go_simp; try with_reducible rfl) ?_
      (try simp only [Act.put, List.setIfInBounds_toArray, List.set_cons_zero, List.set_cons_succ, List.getElem_toArray, List.getElem_cons_succ, List.getElem_cons_zero])
      refine held_take 9 _ _ rfl (by kernel_rfl) (by kernel_rfl) (by kernel_rfl) (fun _ _ _ h => h) (by rfl) hHeld1 (fun w hSw => by (try dsimp only at hSw); go_simp; try with_reducible rfl) ?_
      (try simp only [Act.put, List.setIfInBounds_toArray, List.set_cons_zero, List.set_cons_succ, List.getElem_toArray, List.getElem_cons_succ, List.getElem_cons_zero])
      refine held_skip 10 _ rfl (by kernel_rfl) (by kernel_rfl) (by kernel_rfl) (fun _ _ _ h => h) (by rfl) hHeld1 ?_
      (try simp only [Act.put, List.setIfInBounds_toArray, List.set_cons_zero, List.set_cons_succ, List.getElem_toArray, List.getElem_cons_succ, List.getElem_cons_zero])
      refine held_skip 11 _ rfl (by kernel_rfl) (by kernel_rfl) (by kernel_rfl) (fun _ _ _ h => h) (by rfl) hHeld1 ?_
      (try simp only [Act.put, List.setIfInBounds_toArray, List.set_cons_zero, List.set_cons_succ, List.getElem_toArray, List.getElem_cons_succ, List.getElem_cons_zero])
      refine held_skip 12 _ rfl (by kernel_rfl) (by kernel_rfl) (by kernel_rfl) (fun _ _ _ h => h) (by rfl) hHeld1 ?_
      (try simp only [Act.put, List.setIfInBounds_toArray, List.set_cons_zero, List.set_cons_succ, List.getElem_toArray, List.getElem_cons_succ, List.getElem_cons_zero])
      refine held_take 13 _ _ rfl (by kernel_rfl) (by kernel_rfl) (by kernel_rfl) (fun _ _ _ h => h) (by rfl) hHeld1 (fun w hSw => by (try dsimp only at hSw); go_simp; try with_reducible rfl) ?_
      (try simp only [Act.put, List.setIfInBounds_toArray, List.set_cons_zero, List.set_cons_succ, List.getElem_toArray, List.getElem_cons_succ, List.getElem_cons_zero])
      refine held_take 14 _ _ rfl (by kernel_rfl) (by kernel_rfl) (by kernel_rfl) (fun _ _ _ h => h) (by rfl) hHeld1 (fun w hSw => by (try dsimp only at hSw); go_simp; try with_reducible rfl) ?_
      (try simp only [Act.put, List.setIfInBounds_toArray, List.set_cons_zero, List.set_cons_succ, List.getElem_toArray, List.getElem_cons_succ, List.getElem_cons_zero])
      refine held_skip 15 _ rfl (by kernel_rfl) (by kernel_rfl) (by kernel_rfl) (fun _ _ _ h => h) (by rfl) hHeld1 ?_
      (try simp only [Act.put, List.setIfInBounds_toArray, List.set_cons_zero, List.set_cons_succ, List.getElem_toArray, List.getElem_cons_succ, List.getElem_cons_zero])
      refine held_skip 16 _ rfl (by kernel_rfl) (by kernel_rfl) (by kernel_rfl) (fun _ _ _ h => h) (by rfl) hHeld1 ?_
      (try simp only [Act.put, List.setIfInBounds_toArray, List.set_cons_zero, List.set_cons_succ, List.getElem_toArray, List.getElem_cons_succ, List.getElem_cons_zero])
      refine held_skip 17 _ rfl (by kernel_rfl) (by kernel_rfl) (by kernel_rfl) (fun _ _ _ h => h) (by rfl) hHeld1 ?_
      (try simp only [Act.put, List.setIfInBounds_toArray, List.set_cons_zero, List.set_cons_succ, List.getElem_toArray, List.getElem_cons_succ, List.getElem_cons_zero])
      refine held_skip 18 _ rfl (by kernel_rfl) (by kernel_rfl) (by kernel_rfl) (fun _ _ _ h => h) (by rfl) hHeld1 ?_
      (try simp only [Act.put, List.setIfInBounds_toArray, List.set_cons_zero, List.set_cons_succ, List.getElem_toArray, List.getElem_cons_succ, List.getElem_cons_zero])
      refine held_take 19 _ _ rfl (by kernel_rfl) (by kernel_rfl) (by kernel_rfl) (fun _ _ _ h => h) (by rfl) hHeld1 (fun w hSw => by (try dsimp only at hSw); go_simp; try with_reducible rfl) ?_
      (try simp only [Act.put, List.setIfInBounds_toArray, List.set_cons_zero, List.set_cons_succ, List.getElem_toArray, List.getElem_cons_succ, List.getElem_cons_zero])
      refine held_take 20 _ _ rfl (by kernel_rfl) (by kernel_rfl) (by kernel_rfl) (fun _ _ _ h => h) (by rfl) hHeld1 (fun w hSw => by (try dsimp only at hSw); go_simp; try with_reducible rfl) ?_
      (try simp only [Act.put, List.setIfInBounds_toArray, List.set_cons_zero, List.set_cons_succ, List.getElem_toArray, List.getElem_cons_succ, List.getElem_cons_zero])
      refine held_skip 21 _ rfl (by kernel_rfl) (by kernel_rfl) (by kernel_rfl) (fun _ _ _ h => h) (by rfl) hHeld1 ?_
      (try simp only [Act.put, List.setIfInBounds_toArray, List.set_cons_zero, List.set_cons_succ, List.getElem_toArray, List.getElem_cons_succ, List.getElem_cons_zero])
      refine held_skip 22 _ rfl (by kernel_rfl) (by kernel_rfl) (by kernel_rfl) (fun _ _ _ h => h) (by rfl) hHeld1 ?_
      (try simp only [Act.put, List.setIfInBounds_toArray, List.set_cons_zero, List.set_cons_succ, List.getElem_toArray, List.getElem_cons_succ, List.getElem_cons_zero])
      refine held_skip 23 _ rfl (by kernel_rfl) (by kernel_rfl) (by kernel_rfl) (fun _ _ _ h => h) (by rfl) hHeld1 ?_
      (try simp only [Act.put, List.setIfInBounds_toArray, List.set_cons_zero, List.set_cons_succ, List.getElem_toArray, List.getElem_cons_succ, List.getElem_cons_zero])
      refine held_skip 24 _ rfl (by kernel_rfl) (by kernel_rfl) (by kernel_rfl) (fun _ _ _ h => h) (by rfl) hHeld1 ?_
      (try simp only [Act.put, List.setIfInBounds_toArray, List.set_cons_zero, List.set_cons_succ, List.getElem_toArray, List.getElem_cons_succ, List.getElem_cons_zero])
      refine held_skip 25 _ rfl (by kernel_rfl) (by kernel_rfl) (by kernel_rfl) (fun _ _ _ h => h) (by rfl) hHeld1 ?_
      (try simp only [Act.put, List.setIfInBounds_toArray, List.set_cons_zero, List.set_cons_succ, List.getElem_toArray, List.getElem_cons_succ, List.getElem_cons_zero])
      refine held_skip 26 _ rfl (by kernel_rfl) (by kernel_rfl) (by kernel_rfl) (fun _ _ _ h => h) (by rfl) hHeld1 ?_
      (try simp only [Act.put, List.setIfInBounds_toArray, List.set_cons_zero, List.set_cons_succ, List.getElem_toArray, List.getElem_cons_succ, List.getElem_cons_zero])
      refine held_take 27 _ _ rfl (by kernel_rfl) (by kernel_rfl) (by kernel_rfl) (fun _ _ _ h => h) (by rfl) hHeld1 (fun w hSw => by (try dsimp only at hSw); go_simp; try with_reducible rfl) ?_
      (try simp only [Act.put, List.setIfInBounds_toArray, List.set_cons_zero, List.set_cons_succ, List.getElem_toArray, List.getElem_cons_succ, List.getElem_cons_zero])
      refine held_take 28 _ _ rfl (by kernel_rfl) (by kernel_rfl) (by kernel_rfl) (fun _ _ _ h => h) (by rfl) hHeld1 (fun w hSw => by (try dsimp only at hSw); go_simp; try with_reducible rfl) ?_
      (try simp only [Act.put, List.setIfInBounds_toArray, List.set_cons_zero, List.set_cons_succ, List.getElem_toArray, List.getElem_cons_succ, List.getElem_cons_zero])
      refine held_skip 29 _ rfl (by kernel_rfl) (by kernel_rfl) (by kernel_rfl) (fun _ _ _ h => h) (by rfl) hHeld1 ?_
      (try simp only [Act.put, List.setIfInBounds_toArray, List.set_cons_zero, List.set_cons_succ, List.getElem_toArray, List.getElem_cons_succ, List.getElem_cons_zero])
      refine held_skip 30 _ rfl (by kernel_rfl) (by kernel_rfl) (by kernel_rfl) (fun _ _ _ h => h) (by rfl) hHeld1 ?_
      (try simp only [Act.put, List.setIfInBounds_toArray, List.set_cons_zero, List.set_cons_succ, List.getElem_toArray, List.getElem_cons_succ, List.getElem_cons_zero])
      refine held_skip 31 _ rfl (by kernel_rfl) (by kernel_rfl) (by kernel_rfl) (fun _ _ _ h => h) (by rfl) hHeld1 ?_
      (try simp only [Act.put, List.setIfInBounds_toArray, List.set_cons_zero, List.set_cons_succ, List.getElem_toArray, List.getElem_cons_succ, List.getElem_cons_zero])
      refine held_take 32 _ _ rfl (by kernel_rfl) (by kernel_rfl) (by kernel_rfl) (fun _ _ _ h => h) (by rfl) hHeld1 (fun w hSw => by (try dsimp only at hSw); go_simp; try with_reducible rfl) ?_
      (try simp only [Act.put, List.setIfInBounds_toArray, List.set_cons_zero, List.set_cons_succ, List.getElem_toArray, List.getElem_cons_succ, List.getElem_cons_zero])
      refine held_take 33 _ _ rfl (by kernel_rfl) (by kernel_rfl) (by kernel_rfl) (fun _ _ _ h => h) (by rfl) hHeld1 (fun w hSw => by (try dsimp only at hSw); go_simp; try with_reducible rfl) ?_
      (try simp only [Act.put, List.setIfInBounds_toArray, List.set_cons_zero, List.set_cons_succ, List.getElem_toArray, List.getElem_cons_succ, List.getElem_cons_zero])
      refine wpAnyH_done (by kernel_rfl) ?_ _
      have hbz := hWb'.trans (hHeld1.2.mono (by omega))
      clear hHeld hHeld1
      go_wp2_with fail
      go_ret
      exact ⟨by rw [HR.out]; rfl, hbz⟩
    · skip
      cases h2 : ascB G
      · have HR := Lib.hid (isSgB_false (G := G) (.inr (.inr (.inl h2))))
        rw [h0] at c1
        have c4 := c4 h0
        have c6 := c6 h0
        have hd1 : (G.length : Int) ≤ 12 := by rw [decide_eq_true_iff] at h1; omega
        rw [h2] at c2
        clear h0 h1 h2
        go_enter Try.func20, Try.ntmps20
        go_wp2_with fail
        rw [← HWW.out]
        refine wp_region_held_drew (S := fun w' => w'.cell? ⟨w.heap.size, 0, none⟩ = some (.slice a G.length cap) ∧ Below W.heap.size W w') (by kernel_rfl) HW0.out (fun hHeld => ?_)
        refine held_take 0 _ _ rfl (by kernel_rfl) (by kernel_rfl) (by kernel_rfl) (fun _ _ _ h => h) (by rfl) hHeld (fun w hSw => by (try dsimp only at hSw); go_simp; try with_reducible rfl) ?_
        (try simp only [Act.put, List.setIfInBounds_toArray, List.set_cons_zero, List.set_cons_succ, List.getElem_toArray, List.getElem_cons_zero])
        refine held_take 1 _ _ rfl (by kernel_rfl) (by kernel_rfl) (by kernel_rfl) (fun _ _ _ h => h) (by rfl) hHeld (fun w hSw => by (try dsimp only at hSw); go_simp; try with_reducible rfl) ?_
        (try simp only [Act.put, List.setIfInBounds_toArray, List.set_cons_zero, List.set_cons_succ, List.getElem_toArray, List.getElem_cons_succ, List.getElem_cons_zero])
        refine wpAnyH_ready (rs := [2]) (by kernel_rfl) (by simp) ?_
        refine AllReadyH.cons rfl (fun K hK => ?_) AllReadyH.nil
        rw [if_pos (by rfl)]
        go_wp2_with (first | (go_at_call 48; (with_reducible refine (c1 _ hHeld).mono ?_); rintro e w2 ⟨rfl, rfl⟩))
        refine hK.out _ _ (hHeld) (fun hHeld1 => ?_)
        clear hK K
        (try simp only [Act.put, List.setIfInBounds_toArray, List.set_cons_zero, List.set_cons_succ, List.getElem_toArray, List.getElem_cons_succ, List.getElem_cons_zero])
        refine held_take 3 _ _ rfl (by kernel_rfl) (by kernel_rfl) (by kernel_rfl) (fun _ _ _ h => h) (by rfl) hHeld1 (fun w hSw => by (try dsimp only at hSw); go_simp; try with_reducible rfl) ?_
        (try simp only [Act.put, List.setIfInBounds_toArray, List.set_cons_zero, List.set_cons_succ, List.getElem_toArray, List.getElem_cons_succ, List.getElem_cons_zero])
        refine held_take 4 _ _ rfl (by kernel_rfl) (by kernel_rfl) (by kernel_rfl) (fun _ _ _ h => h) (by rfl) hHeld1 (fun w hSw => by (try dsimp only at hSw); go_simp; try with_reducible rfl) ?_
        (try simp only [Act.put, List.setIfInBounds_toArray, List.set_cons_zero, List.set_cons_succ, List.getElem_toArray, List.getElem_cons_succ, List.getElem_cons_zero])
        refine held_take 5 _ _ rfl (by kernel_rfl) (by kernel_rfl) (by kernel_rfl) (fun _ _ _ h => h) (by rfl) hHeld1 (fun w hSw => by (try dsimp only at hSw); go_simp; try with_reducible rfl) ?_
        (try simp only [Act.put, List.setIfInBounds_toArray, List.set_cons_zero, List.set_cons_succ, List.getElem_toArray, List.getElem_cons_succ, List.getElem_cons_zero])
        refine held_take 6 _ _ rfl (by kernel_rfl) (by kernel_rfl) (by kernel_rfl) (fun _ _ _ h => h) (by rfl) hHeld1 (fun w hSw => by (try dsimp only at hSw); go_simp; try with_reducible rfl) ?_
        (try simp only [Act.put, List.setIfInBounds_toArray, List.set_cons_zero, List.set_cons_succ, List.getElem_toArray, List.getElem_cons_succ, List.getElem_cons_zero])
        refine held_take 7 _ _ rfl (by kernel_rfl) (by kernel_rfl) (by kernel_rfl) (fun _ _ _ h => h) (by rfl) hHeld1 (fun w hSw => by (try dsimp only at hSw); go_simp; try with_reducible rfl) ?_
        (try simp only [Act.put, List.setIfInBounds_toArray, List.set_cons_zero, List.set_cons_succ, List.getElem_toArray, List.getElem_cons_succ, List.getElem_cons_zero])
        refine held_take 8 _ _ rfl (by kernel_rfl) (by kernel_rfl) (by kernel_rfl) (fun _ _ _ h => h) (by rfl) hHeld1 (fun w hSw => by (try dsimp only at hSw); go_simp; try with_reducible rfl) ?_
        (try simp only [Act.put, List.setIfInBounds_toArray, List.set_cons_zero, List.set_cons_succ, List.getElem_toArray, List.getElem_cons_succ, List.getElem_cons_zero])
        refine held_take 9 _ _ rfl (by kernel_rfl) (by kernel_rfl) (by kernel_rfl) (fun _ _ _ h => h) (by rfl) hHeld1 (fun w hSw => by (try dsimp only at hSw); go_simp; try with_reducible rfl) ?_
        (try simp only [Act.put, List.setIfInBounds_toArray, List.set_cons_zero, List.set_cons_succ, List.getElem_toArray, List.getElem_cons_succ, List.getElem_cons_zero])
        refine held_take 10 _ _ rfl (by kernel_rfl) (by kernel_rfl) (by kernel_rfl) (fun _ _ _ h => h) (by rfl) hHeld1 (fun w hSw => by (try dsimp only at hSw); go_simp; try with_reducible rfl) ?_
        (try simp only [Act.put, List.setIfInBounds_toArray, List.set_cons_zero, List.set_cons_succ, List.getElem_toArray, List.getElem_cons_succ, List.getElem_cons_zero])
        refine held_take 11 _ _ rfl (by kernel_rfl) (by kernel_rfl) (by kernel_rfl) (fun _ _ _ h => h) (by rfl) hHeld1 (fun w hSw => by (try dsimp only at hSw); go_simp; try with_reducible rfl) ?_
        (try simp only [Act.put, List.setIfInBounds_toArray, List.set_cons_zero, List.set_cons_succ, List.getElem_toArray, List.getElem_cons_succ, List.getElem_cons_zero])
        refine wpAnyH_ready (rs := [12]) (by kernel_rfl) (by simp) ?_
        refine AllReadyH.cons rfl (fun K hK => ?_) AllReadyH.nil
        rw [if_pos (by rfl)]
        go_wp2_with (first | (go_at_call 56; (with_reducible refine (c2 _ hHeld1).mono ?_); rintro e w2 ⟨rfl, hb2⟩))
        refine hK.out _ _ (held_keep hbl hHeld1 hb2) (fun hHeld2 => ?_)
        clear hK K
        (try simp only [Act.put, List.setIfInBounds_toArray, List.set_cons_zero, List.set_cons_succ, List.getElem_toArray, List.getElem_cons_succ, List.getElem_cons_zero])
        refine held_take 13 _ _ rfl (by kernel_rfl) (by kernel_rfl) (by kernel_rfl) (fun _ _ _ h => h) (by rfl) hHeld2 (fun w hSw => by (try dsimp only at hSw); go_simp; try with_reducible rfl) ?_
        (try simp only [Act.put, List.setIfInBounds_toArray, List.set_cons_zero, List.set_cons_succ, List.getElem_toArray, List.getElem_cons_succ, List.getElem_cons_zero])
        refine held_take 14 _ _ rfl (by kernel_rfl) (by kernel_rfl) (by kernel_rfl) (fun _ _ _ h => h) (by rfl) hHeld2 (fun w hSw => by (try dsimp only at hSw); go_simp; try with_reducible rfl) ?_
        (try simp only [Act.put, List.setIfInBounds_toArray, List.set_cons_zero, List.set_cons_succ, List.getElem_toArray, List.getElem_cons_succ, List.getElem_cons_zero])
        refine held_skip 15 _ rfl (by kernel_rfl) (by kernel_rfl) (by kernel_rfl) (fun _ _ _ h => h) (by rfl) hHeld2 ?_
        (try simp only [Act.put, List.setIfInBounds_toArray, List.set_cons_zero, List.set_cons_succ, List.getElem_toArray, List.getElem_cons_succ, List.getElem_cons_zero])
        refine held_skip 16 _ rfl (by kernel_rfl) (by kernel_rfl) (by kernel_rfl) (fun _ _ _ h => h) (by rfl) hHeld2 ?_
        (try simp only [Act.put, List.setIfInBounds_toArray, List.set_cons_zero, List.set_cons_succ, List.getElem_toArray, List.getElem_cons_succ, List.getElem_cons_zero])
        refine held_skip 17 _ rfl (by kernel_rfl) (by kernel_rfl) (by kernel_rfl) (fun _ _ _ h => h) (by rfl) hHeld2 ?_
        (try simp only [Act.put, List.setIfInBounds_toArray, List.set_cons_zero, List.set_cons_succ, List.getElem_toArray, List.getElem_cons_succ, List.getElem_cons_zero])
        refine held_skip 18 _ rfl (by kernel_rfl) (by kernel_rfl) (by kernel_rfl) (fun _ _ _ h => h) (by rfl) hHeld2 ?_
        (try simp only [Act.put, List.setIfInBounds_toArray, List.set_cons_zero, List.set_cons_succ, List.getElem_toArray, List.getElem_cons_succ, List.getElem_cons_zero])
        refine held_take 19 _ _ rfl (by kernel_rfl) (by kernel_rfl) (by kernel_rfl) (fun _ _ _ h => h) (by rfl) hHeld2 (fun w hSw => by (try dsimp only at hSw); go_simp; try with_reducible rfl) ?_
        (try simp only [Act.put, List.setIfInBounds_toArray, List.set_cons_zero, List.set_cons_succ, List.getElem_toArray, List.getElem_cons_succ, List.getElem_cons_zero])
        refine held_take 20 _ _ rfl (by kernel_rfl) (by kernel_rfl) (by kernel_rfl) (fun _ _ _ h => h) (by rfl) hHeld2 (fun w hSw => by (try dsimp only at hSw); go_simp; try with_reducible rfl) ?_
        (try simp only [Act.put, List.setIfInBounds_toArray, List.set_cons_zero, List.set_cons_succ, List.getElem_toArray, List.getElem_cons_succ, List.getElem_cons_zero])
        refine held_skip 21 _ rfl (by kernel_rfl) (by kernel_rfl) (by kernel_rfl) (fun _ _ _ h => h) (by rfl) hHeld2 ?_
        (try simp only [Act.put, List.setIfInBounds_toArray, List.set_cons_zero, List.set_cons_succ, List.getElem_toArray, List.getElem_cons_succ, List.getElem_cons_zero])
        refine held_skip 22 _ rfl (by kernel_rfl) (by kernel_rfl) (by kernel_rfl) (fun _ _ _ h => h) (by rfl) hHeld2 ?_
        (try simp only [Act.put, List.setIfInBounds_toArray, List.set_cons_zero, List.set_cons_succ, List.getElem_toArray, List.getElem_cons_succ, List.getElem_cons_zero])
        refine held_skip 23 _ rfl (by kernel_rfl) (by kernel_rfl) (by kernel_rfl) (fun _ _ _ h => h) (by rfl) hHeld2 ?_
        (try simp only [Act.put, List.setIfInBounds_toArray, List.set_cons_zero, List.set_cons_succ, List.getElem_toArray, List.getElem_cons_succ, List.getElem_cons_zero])
        refine held_skip 24 _ rfl (by kernel_rfl) (by kernel_rfl) (by kernel_rfl) (fun _ _ _ h => h) (by rfl) hHeld2 ?_
        (try simp only [Act.put, List.setIfInBounds_toArray, List.set_cons_zero, List.set_cons_succ, List.getElem_toArray, List.getElem_cons_succ, List.getElem_cons_zero])
        refine held_skip 25 _ rfl (by kernel_rfl) (by kernel_rfl) (by kernel_rfl) (fun _ _ _ h => h) (by rfl) hHeld2 ?_
        (try simp only [Act.put, List.setIfInBounds_toArray, List.set_cons_zero, List.set_cons_succ, List.getElem_toArray, List.getElem_cons_succ, List.getElem_cons_zero])
        refine held_skip 26 _ rfl (by kernel_rfl) (by kernel_rfl) (by kernel_rfl) (fun _ _ _ h => h) (by rfl) hHeld2 ?_
        (try simp only [Act.put, List.setIfInBounds_toArray, List.set_cons_zero, List.set_cons_succ, List.getElem_toArray, List.getElem_cons_succ, List.getElem_cons_zero])
        refine held_take 27 _ _ rfl (by kernel_rfl) (by kernel_rfl) (by kernel_rfl) (fun _ _ _ h => h) (by rfl) hHeld2 (fun w hSw => by (try dsimp only at hSw); go_simp; try with_reducible rfl) ?_
        (try simp only [Act.put, List.setIfInBounds_toArray, List.set_cons_zero, List.set_cons_succ, List.getElem_toArray, List.getElem_cons_succ, List.getElem_cons_zero])
        refine held_take 28 _ _ rfl (by kernel_rfl) (by kernel_rfl) (by kernel_rfl) (fun _ _ _ h => h) (by rfl) hHeld2 (fun w hSw => by (try dsimp only at hSw); go_simp; try with_reducible rfl) ?_
        (try simp only [Act.put, List.setIfInBounds_toArray, List.set_cons_zero, List.set_cons_succ, List.getElem_toArray, List.getElem_cons_succ, List.getElem_cons_zero])
        refine held_skip 29 _ rfl (by kernel_rfl) (by kernel_rfl) (by kernel_rfl) (fun _ _ _ h => h) (by rfl) hHeld2 ?_
        (try simp only [Act.put, List.setIfInBounds_toArray, List.set_cons_zero, List.set_cons_succ, List.getElem_toArray, List.getElem_cons_succ, List.getElem_cons_zero])
        refine held_skip 30 _ rfl (by kernel_rfl) (by kernel_rfl) (by kernel_rfl) (fun _ _ _ h => h) (by rfl) hHeld2 ?_
        (try simp only [Act.put, List.setIfInBounds_toArray, List.set_cons_zero, List.set_cons_succ, List.getElem_toArray, List.getElem_cons_succ, List.getElem_cons_zero])
        refine held_skip 31 _ rfl (by kernel_rfl) (by kernel_rfl) (by kernel_rfl) (fun _ _ _ h => h) (by rfl) hHeld2 ?_
        (try simp only [Act.put, List.setIfInBounds_toArray, List.set_cons_zero, List.set_cons_succ, List.getElem_toArray, List.getElem_cons_succ, List.getElem_cons_zero])
        refine held_take 32 _ _ rfl (by kernel_rfl) (by kernel_rfl) (by kernel_rfl) (fun _ _ _ h => h) (by rfl) hHeld2 (fun w hSw => by (try dsimp only at hSw); go_simp; try with_reducible rfl) ?_
        (try simp only [Act.put, List.setIfInBounds_toArray, List.set_cons_zero, List.set_cons_succ, List.getElem_toArray, List.getElem_cons_succ, List.getElem_cons_zero])
        refine held_take 33 _ _ rfl (by kernel_rfl) (by kernel_rfl) (by kernel_rfl) (fun _ _ _ h => h) (by rfl) hHeld2 (fun w hSw => by (try dsimp only at hSw); go_simp; try with_reducible rfl) ?_
        (try simp only [Act.put, List.setIfInBounds_toArray, List.set_cons_zero, List.set_cons_succ, List.getElem_toArray, List.getElem_cons_succ, List.getElem_cons_zero])
        refine wpAnyH_done (by kernel_rfl) ?_ _
        have hbz := hWb'.trans (hHeld2.2.mono (by omega))
        clear hHeld hHeld1 hHeld2
        go_wp2_with fail
        go_ret
        exact ⟨by rw [HR.out]; rfl, hbz⟩
      · skip
        cases h3 : decide (gcdL G = 1)
        · have HR := Lib.hid (isSgB_false (G := G) (.inr (.inr (.inr (.inl h3)))))
          rw [h0] at c1
          have c4 := c4 h0
          have c6 := c6 h0
          have hd1 : (G.length : Int) ≤ 12 := by rw [decide_eq_true_iff] at h1; omega
          rw [h2] at c2
          have hd3 : (gcdL G == 1) = false := by rw [decide_eq_false_iff_not] at h3; rw [beq_eq_false_iff_ne]; exact h3
          clear h0 h1 h2 h3
          generalize gcdL G = gg at *
          go_enter Try.func20, Try.ntmps20
          go_wp2_with fail
          rw [← HWW.out]
          refine wp_region_held_drew (S := fun w' => w'.cell? ⟨w.heap.size, 0, none⟩ = some (.slice a G.length cap) ∧ Below W.heap.size W w') (by kernel_rfl) HW0.out (fun hHeld => ?_)
          refine held_take 0 _ _ rfl (by kernel_rfl) (by kernel_rfl) (by kernel_rfl) (fun _ _ _ h => h) (by rfl) hHeld (fun w hSw => by (try dsimp only at hSw); go_simp; try with_reducible rfl) ?_
          (try simp only [Act.put, List.setIfInBounds_toArray, List.set_cons_zero, List.set_cons_succ, List.getElem_toArray, List.getElem_cons_zero])
          refine held_take 1 _ _ rfl (by kernel_rfl) (by kernel_rfl) (by kernel_rfl) (fun _ _ _ h => h) (by rfl) hHeld (fun w hSw => by (try dsimp only at hSw); go_simp; try with_reducible rfl) ?_
          (try simp only [Act.put, List.setIfInBounds_toArray, List.set_cons_zero, List.set_cons_succ, List.getElem_toArray, List.getElem_cons_succ, List.getElem_cons_zero])
          refine wpAnyH_ready (rs := [2]) (by kernel_rfl) (by simp) ?_
          refine AllReadyH.cons rfl (fun K hK => ?_) AllReadyH.nil
          rw [if_pos (by rfl)]
          go_wp2_with (first | (go_at_call 48; (with_reducible refine (c1 _ hHeld).mono ?_); rintro e w2 ⟨rfl, rfl⟩))
          refine hK.out _ _ (hHeld) (fun hHeld1 => ?_)
          clear hK K
          (try simp only [Act.put, List.setIfInBounds_toArray, List.set_cons_zero, List.set_cons_succ, List.getElem_toArray, List.getElem_cons_succ, List.getElem_cons_zero])
          refine held_take 3 _ _ rfl (by kernel_rfl) (by kernel_rfl) (by kernel_rfl) (fun _ _ _ h => h) (by rfl) hHeld1 (fun w hSw => by (try dsimp only at hSw); go_simp; try with_reducible rfl) ?_
          (try simp only [Act.put, List.setIfInBounds_toArray, List.set_cons_zero, List.set_cons_succ, List.getElem_toArray, List.getElem_cons_succ, List.getElem_cons_zero])
          refine held_take 4 _ _ rfl (by kernel_rfl) (by kernel_rfl) (by kernel_rfl) (fun _ _ _ h => h) (by rfl) hHeld1 (fun w hSw => by (try dsimp only at hSw); go_simp; try with_reducible rfl) ?_
          (try simp only [Act.put, List.setIfInBounds_toArray, List.set_cons_zero, List.set_cons_succ, List.getElem_toArray, List.getElem_cons_succ, List.getElem_cons_zero])
          refine held_take 5 _ _ rfl (by kernel_rfl) (by kernel_rfl) (by kernel_rfl) (fun _ _ _ h => h) (by rfl) hHeld1 (fun w hSw => by (try dsimp only at hSw); go_simp; try with_reducible rfl) ?_
          (try simp only [Act.put, List.setIfInBounds_toArray, List.set_cons_zero, List.set_cons_succ, List.getElem_toArray, List.getElem_cons_succ, List.getElem_cons_zero])
          refine held_take 6 _ _ rfl (by kernel_rfl) (by kernel_rfl) (by kernel_rfl) (fun _ _ _ h => h) (by rfl) hHeld1 (fun w hSw => by (try dsimp only at hSw); go_simp; try with_reducible rfl) ?_
          (try simp only [Act.put, List.setIfInBounds_toArray, List.set_cons_zero, List.set_cons_succ, List.getElem_toArray, List.getElem_cons_succ, List.getElem_cons_zero])
          refine held_take 7 _ _ rfl (by kernel_rfl) (by kernel_rfl) (by kernel_rfl) (fun _ _ _ h => h) (by rfl) hHeld1 (fun w hSw => by (try dsimp only at hSw); go_simp; try with_reducible rfl) ?_
          (try simp only [Act.put, List.setIfInBounds_toArray, List.set_cons_zero, List.set_cons_succ, List.getElem_toArray, List.getElem_cons_succ, List.getElem_cons_zero])
          refine held_take 8 _ _ rfl (by kernel_rfl) (by kernel_rfl) (by kernel_rfl) (fun _ _ _ h => h) (by rfl) hHeld1 (fun w hSw => by (try dsimp only at hSw); go_simp; try with_reducible rfl) ?_
          (try simp only [Act.put, List.setIfInBounds_toArray, List.set_cons_zero, List.set_cons_succ, List.getElem_toArray, List.getElem_cons_succ, List.getElem_cons_zero])
          refine held_take 9 _ _ rfl (by kernel_rfl) (by kernel_rfl) (by kernel_rfl) (fun _ _ _ h => h) (by rfl) hHeld1 (fun w hSw => by (try dsimp only at hSw); go_simp; try with_reducible rfl) ?_
          (try simp only [Act.put, List.setIfInBounds_toArray, List.set_cons_zero, List.set_cons_succ, List.getElem_toArray, List.getElem_cons_succ, List.getElem_cons_zero])
          refine held_take 10 _ _ rfl (by kernel_rfl) (by kernel_rfl) (by kernel_rfl) (fun _ _ _ h => h) (by rfl) hHeld1 (fun w hSw => by (try dsimp only at hSw); go_simp; try with_reducible rfl) ?_
          (try simp only [Act.put, List.setIfInBounds_toArray, List.set_cons_zero, List.set_cons_succ, List.getElem_toArray, List.getElem_cons_succ, List.getElem_cons_zero])
          refine held_take 11 _ _ rfl (by kernel_rfl) (by kernel_rfl) (by kernel_rfl) (fun _ _ _ h => h) (by rfl) hHeld1 (fun w hSw => by (try dsimp only at hSw); go_simp; try with_reducible rfl) ?_
          (try simp only [Act.put, List.setIfInBounds_toArray, List.set_cons_zero, List.set_cons_succ, List.getElem_toArray, List.getElem_cons_succ, List.getElem_cons_zero])
          refine wpAnyH_ready (rs := [12]) (by kernel_rfl) (by simp) ?_
          refine AllReadyH.cons rfl (fun K hK => ?_) AllReadyH.nil
          rw [if_pos (by rfl)]
          go_wp2_with (first | (go_at_call 56; (with_reducible refine (c2 _ hHeld1).mono ?_); rintro e w2 ⟨rfl, hb2⟩))
          refine hK.out _ _ (held_keep hbl hHeld1 hb2) (fun hHeld2 => ?_)
          clear hK K
          (try simp only [Act.put, List.setIfInBounds_toArray, List.set_cons_zero, List.set_cons_succ, List.getElem_toArray, List.getElem_cons_succ, List.getElem_cons_zero])
          refine held_take 13 _ _ rfl (by kernel_rfl) (by kernel_rfl) (by kernel_rfl) (fun _ _ _ h => h) (by rfl) hHeld2 (fun w hSw => by (try dsimp only at hSw); go_simp; try with_reducible rfl) ?_
          (try simp only [Act.put, List.setIfInBounds_toArray, List.set_cons_zero, List.set_cons_succ, List.getElem_toArray, List.getElem_cons_succ, List.getElem_cons_zero])
          refine held_take 14 _ _ rfl (by kernel_rfl) (by kernel_rfl) (by kernel_rfl) (fun _ _ _ h => h) (by rfl) hHeld2 (fun w hSw => by (try dsimp only at hSw); go_simp; try with_reducible rfl) ?_
          (try simp only [Act.put, List.setIfInBounds_toArray, List.set_cons_zero, List.set_cons_succ, List.getElem_toArray, List.getElem_cons_succ, List.getElem_cons_zero])
          refine held_take 15 _ _ rfl (by kernel_rfl) (by kernel_rfl) (by kernel_rfl) (fun _ _ _ h => h) (by rfl) hHeld2 (fun w hSw => by (try dsimp only at hSw); go_simp; try with_reducible rfl) ?_
          (try simp only [Act.put, List.setIfInBounds_toArray, List.set_cons_zero, List.set_cons_succ, List.getElem_toArray, List.getElem_cons_succ, List.getElem_cons_zero])
          refine held_take 16 _ _ rfl (by kernel_rfl) (by kernel_rfl) (by kernel_rfl) (fun _ _ _ h => h) (by rfl) hHeld2 (fun w hSw => by (try dsimp only at hSw); go_simp; try with_reducible rfl) ?_
          (try simp only [Act.put, List.setIfInBounds_toArray, List.set_cons_zero, List.set_cons_succ, List.getElem_toArray, List.getElem_cons_succ, List.getElem_cons_zero])
          refine wpAnyH_ready (rs := [17]) (by kernel_rfl) (by simp) ?_
          refine AllReadyH.cons rfl (fun K hK => ?_) AllReadyH.nil
          rw [if_pos (by rfl)]
          go_wp2_with (first | (go_at_call 50; (with_reducible refine (c3 _ hHeld2).mono ?_); rintro e w3 ⟨rfl, rfl⟩))
          refine hK.out _ _ (hHeld2) (fun hHeld3 => ?_)
          clear hK K
          (try simp only [Act.put, List.setIfInBounds_toArray, List.set_cons_zero, List.set_cons_succ, List.getElem_toArray, List.getElem_cons_succ, List.getElem_cons_zero])
          refine held_take 18 _ _ rfl (by kernel_rfl) (by kernel_rfl) (by kernel_rfl) (fun _ _ _ h => h) (by rfl) hHeld3 (fun w hSw => by (try dsimp only at hSw); go_simp; try with_reducible rfl) ?_
          (try simp only [Act.put, List.setIfInBounds_toArray, List.set_cons_zero, List.set_cons_succ, List.getElem_toArray, List.getElem_cons_succ, List.getElem_cons_zero])
          refine held_take 19 _ _ rfl (by kernel_rfl) (by kernel_rfl) (by kernel_rfl) (fun _ _ _ h => h) (by rfl) hHeld3 (fun w hSw => by (try dsimp only at hSw); go_simp; try with_reducible rfl) ?_
          (try simp only [Act.put, List.setIfInBounds_toArray, List.set_cons_zero, List.set_cons_succ, List.getElem_toArray, List.getElem_cons_succ, List.getElem_cons_zero])
          refine held_take 20 _ _ rfl (by kernel_rfl) (by kernel_rfl) (by kernel_rfl) (fun _ _ _ h => h) (by rfl) hHeld3 (fun w hSw => by (try dsimp only at hSw); go_simp; try with_reducible rfl) ?_
          (try simp only [Act.put, List.setIfInBounds_toArray, List.set_cons_zero, List.set_cons_succ, List.getElem_toArray, List.getElem_cons_succ, List.getElem_cons_zero])
          refine held_skip 21 _ rfl (by kernel_rfl) (by kernel_rfl) (by kernel_rfl) (fun _ _ _ h => h) (by rfl) hHeld3 ?_
          (try simp only [Act.put, List.setIfInBounds_toArray, List.set_cons_zero, List.set_cons_succ, List.getElem_toArray, List.getElem_cons_succ, List.getElem_cons_zero])
          refine held_skip 22 _ rfl (by kernel_rfl) (by kernel_rfl) (by kernel_rfl) (fun _ _ _ h => h) (by rfl) hHeld3 ?_
          (try simp only [Act.put, List.setIfInBounds_toArray, List.set_cons_zero, List.set_cons_succ, List.getElem_toArray, List.getElem_cons_succ, List.getElem_cons_zero])
          refine held_skip 23 _ rfl (by kernel_rfl) (by kernel_rfl) (by kernel_rfl) (fun _ _ _ h => h) (by rfl) hHeld3 ?_
          (try simp only [Act.put, List.setIfInBounds_toArray, List.set_cons_zero, List.set_cons_succ, List.getElem_toArray, List.getElem_cons_succ, List.getElem_cons_zero])
          refine held_skip 24 _ rfl (by kernel_rfl) (by kernel_rfl) (by kernel_rfl) (fun _ _ _ h => h) (by rfl) hHeld3 ?_
          (try simp only [Act.put, List.setIfInBounds_toArray, List.set_cons_zero, List.set_cons_succ, List.getElem_toArray, List.getElem_cons_succ, List.getElem_cons_zero])
          refine held_skip 25 _ rfl (by kernel_rfl) (by kernel_rfl) (by kernel_rfl) (fun _ _ _ h => h) (by rfl) hHeld3 ?_
          (try simp only [Act.put, List.setIfInBounds_toArray, List.set_cons_zero, List.set_cons_succ, List.getElem_toArray, List.getElem_cons_succ, List.getElem_cons_zero])
          refine held_skip 26 _ rfl (by kernel_rfl) (by kernel_rfl) (by kernel_rfl) (fun _ _ _ h => h) (by rfl) hHeld3 ?_
          (try simp only [Act.put, List.setIfInBounds_toArray, List.set_cons_zero, List.set_cons_succ, List.getElem_toArray, List.getElem_cons_succ, List.getElem_cons_zero])
          refine held_take 27 _ _ rfl (by kernel_rfl) (by kernel_rfl) (by kernel_rfl) (fun _ _ _ h => h) (by rfl) hHeld3 (fun w hSw => by (try dsimp only at hSw); go_simp; try with_reducible rfl) ?_
          (try simp only [Act.put, List.setIfInBounds_toArray, List.set_cons_zero, List.set_cons_succ, List.getElem_toArray, List.getElem_cons_succ, List.getElem_cons_zero])
          refine held_take 28 _ _ rfl (by kernel_rfl) (by kernel_rfl) (by kernel_rfl) (fun _ _ _ h => h) (by rfl) hHeld3 (fun w hSw => by (try dsimp only at hSw); go_simp; try with_reducible rfl) ?_
          (try simp only [Act.put, List.setIfInBounds_toArray, List.set_cons_zero, List.set_cons_succ, List.getElem_toArray, List.getElem_cons_succ, List.getElem_cons_zero])
          refine held_skip 29 _ rfl (by kernel_rfl) (by kernel_rfl) (by kernel_rfl) (fun _ _ _ h => h) (by rfl) hHeld3 ?_
          (try simp only [Act.put, List.setIfInBounds_toArray, List.set_cons_zero, List.set_cons_succ, List.getElem_toArray, List.getElem_cons_succ, List.getElem_cons_zero])
          refine held_skip 30 _ rfl (by kernel_rfl) (by kernel_rfl) (by kernel_rfl) (fun _ _ _ h => h) (by rfl) hHeld3 ?_
          (try simp only [Act.put, List.setIfInBounds_toArray, List.set_cons_zero, List.set_cons_succ, List.getElem_toArray, List.getElem_cons_succ, List.getElem_cons_zero])
          refine held_skip 31 _ rfl (by kernel_rfl) (by kernel_rfl) (by kernel_rfl) (fun _ _ _ h => h) (by rfl) hHeld3 ?_
          (try simp only [Act.put, List.setIfInBounds_toArray, List.set_cons_zero, List.set_cons_succ, List.getElem_toArray, List.getElem_cons_succ, List.getElem_cons_zero])
          refine held_take 32 _ _ rfl (by kernel_rfl) (by kernel_rfl) (by kernel_rfl) (fun _ _ _ h => h) (by rfl) hHeld3 (fun w hSw => by (try dsimp only at hSw); go_simp; try with_reducible rfl) ?_
          (try simp only [Act.put, List.setIfInBounds_toArray, List.set_cons_zero, List.set_cons_succ, List.getElem_toArray, List.getElem_cons_succ, List.getElem_cons_zero])
          refine held_take 33 _ _ rfl (by kernel_rfl) (by kernel_rfl) (by kernel_rfl) (fun _ _ _ h => h) (by rfl) hHeld3 (fun w hSw => by (try dsimp only at hSw); go_simp; try with_reducible rfl) ?_
          (try simp only [Act.put, List.setIfInBounds_toArray, List.set_cons_zero, List.set_cons_succ, List.getElem_toArray, List.getElem_cons_succ, List.getElem_cons_zero])
          refine wpAnyH_done (by kernel_rfl) ?_ _
          have hbz := hWb'.trans (hHeld3.2.mono (by omega))
          clear hHeld hHeld1 hHeld2 hHeld3
          go_wp2_with fail
          go_ret
          exact ⟨by rw [HR.out]; rfl, hbz⟩
        · skip
          cases h4 : decide (minL G = G)
          · have HR := Lib.hid (isSgB_false (G := G) (.inr (.inr (.inr (.inr h4)))))
            rw [h0] at c1
            have c4 := c4 h0
            have c6 := c6 h0
            have hd1 : (G.length : Int) ≤ 12 := by rw [decide_eq_true_iff] at h1; omega
            rw [h2] at c2
            rw [show gcdL G = 1 from of_decide_eq_true h3] at c3
            have HD5 := Lib.hid h4
            clear h0 h1 h2 h3 h4
            go_enter Try.func20, Try.ntmps20
            go_wp2_with fail
            rw [← HWW.out]
            refine wp_region_held_drew (S := fun w' => w'.cell? ⟨w.heap.size, 0, none⟩ = some (.slice a G.length cap) ∧ Below W.heap.size W w') (by kernel_rfl) HW0.out (fun hHeld => ?_)
            refine held_take 0 _ _ rfl (by kernel_rfl) (by kernel_rfl) (by kernel_rfl) (fun _ _ _ h => h) (by rfl) hHeld (fun w hSw => by (try dsimp only at hSw); go_simp; try with_reducible rfl) ?_
            (try simp only [Act.put, List.setIfInBounds_toArray, List.set_cons_zero, List.set_cons_succ, List.getElem_toArray, List.getElem_cons_zero])
            refine held_take 1 _ _ rfl (by kernel_rfl) (by kernel_rfl) (by kernel_rfl) (fun _ _ _ h => h) (by rfl) hHeld (fun w hSw => by (try dsimp only at hSw); go_simp; try with_reducible rfl) ?_
            (try simp only [Act.put, List.setIfInBounds_toArray, List.set_cons_zero, List.set_cons_succ, List.getElem_toArray, List.getElem_cons_succ, List.getElem_cons_zero])
            refine wpAnyH_ready (rs := [2]) (by kernel_rfl) (by simp) ?_
            refine AllReadyH.cons rfl (fun K hK => ?_) AllReadyH.nil
            rw [if_pos (by rfl)]
            go_wp2_with (first | (go_at_call 48; (with_reducible refine (c1 _ hHeld).mono ?_); rintro e w2 ⟨rfl, rfl⟩))
            refine hK.out _ _ (hHeld) (fun hHeld1 => ?_)
            clear hK K
            (try simp only [Act.put, List.setIfInBounds_toArray, List.set_cons_zero, List.set_cons_succ, List.getElem_toArray, List.getElem_cons_succ, List.getElem_cons_zero])
            refine held_take 3 _ _ rfl (by kernel_rfl) (by kernel_rfl) (by kernel_rfl) (fun _ _ _ h => h) (by rfl) hHeld1 (fun w hSw => by (try dsimp only at hSw); go_simp; try with_reducible rfl) ?_
            (try simp only [Act.put, List.setIfInBounds_toArray, List.set_cons_zero, List.set_cons_succ, List.getElem_toArray, List.getElem_cons_succ, List.getElem_cons_zero])
            refine held_take 4 _ _ rfl (by kernel_rfl) (by kernel_rfl) (by kernel_rfl) (fun _ _ _ h => h) (by rfl) hHeld1 (fun w hSw => by (try dsimp only at hSw); go_simp; try with_reducible rfl) ?_
            (try simp only [Act.put, List.setIfInBounds_toArray, List.set_cons_zero, List.set_cons_succ, List.getElem_toArray, List.getElem_cons_succ, List.getElem_cons_zero])
            refine held_take 5 _ _ rfl (by kernel_rfl) (by kernel_rfl) (by kernel_rfl) (fun _ _ _ h => h) (by rfl) hHeld1 (fun w hSw => by (try dsimp only at hSw); go_simp; try with_reducible rfl) ?_
            (try simp only [Act.put, List.setIfInBounds_toArray, List.set_cons_zero, List.set_cons_succ, List.getElem_toArray, List.getElem_cons_succ, List.getElem_cons_zero])
            refine held_take 6 _ _ rfl (by kernel_rfl) (by kernel_rfl) (by kernel_rfl) (fun _ _ _ h => h) (by rfl) hHeld1 (fun w hSw => by (try dsimp only at hSw); go_simp; try with_reducible rfl) ?_
            (try simp only [Act.put, List.setIfInBounds_toArray, List.set_cons_zero, List.set_cons_succ, List.getElem_toArray, List.getElem_cons_succ, List.getElem_cons_zero])
            refine held_take 7 _ _ rfl (by kernel_rfl) (by kernel_rfl) (by kernel_rfl) (fun _ _ _ h => h) (by rfl) hHeld1 (fun w hSw => by (try dsimp only at hSw); go_simp; try with_reducible rfl) ?_
            (try simp only [Act.put, List.setIfInBounds_toArray, List.set_cons_zero, List.set_cons_succ, List.getElem_toArray, List.getElem_cons_succ, List.getElem_cons_zero])
            refine held_take 8 _ _ rfl (by kernel_rfl) (by kernel_rfl) (by kernel_rfl) (fun _ _ _ h => h) (by rfl) hHeld1 (fun w hSw => by (try dsimp only at hSw); go_simp; try with_reducible rfl) ?_
            (try simp only [Act.put, List.setIfInBounds_toArray, List.set_cons_zero, List.set_cons_succ, List.getElem_toArray, List.getElem_cons_succ, List.getElem_cons_zero])
            refine held_take 9 _ _ rfl (by kernel_rfl) (by kernel_rfl) (by kernel_rfl) (fun _ _ _ h => h) (by rfl) hHeld1 (fun w hSw => by (try dsimp only at hSw); go_simp; try with_reducible rfl) ?_
            (try simp only [Act.put, List.setIfInBounds_toArray, List.set_cons_zero, List.set_cons_succ, List.getElem_toArray, List.getElem_cons_succ, List.getElem_cons_zero])
            refine held_take 10 _ _ rfl (by kernel_rfl) (by kernel_rfl) (by kernel_rfl) (fun _ _ _ h => h) (by rfl) hHeld1 (fun w hSw => by (try dsimp only at hSw); go_simp; try with_reducible rfl) ?_
            (try simp only [Act.put, List.setIfInBounds_toArray, List.set_cons_zero, List.set_cons_succ, List.getElem_toArray, List.getElem_cons_succ, List.getElem_cons_zero])
            refine held_take 11 _ _ rfl (by kernel_rfl) (by kernel_rfl) (by kernel_rfl) (fun _ _ _ h => h) (by rfl) hHeld1 (fun w hSw => by (try dsimp only at hSw); go_simp; try with_reducible rfl) ?_
            (try simp only [Act.put, List.setIfInBounds_toArray, List.set_cons_zero, List.set_cons_succ, List.getElem_toArray, List.getElem_cons_succ, List.getElem_cons_zero])
            refine wpAnyH_ready (rs := [12]) (by kernel_rfl) (by simp) ?_
            refine AllReadyH.cons rfl (fun K hK => ?_) AllReadyH.nil
            rw [if_pos (by rfl)]
            go_wp2_with (first | (go_at_call 56; (with_reducible refine (c2 _ hHeld1).mono ?_); rintro e w2 ⟨rfl, hb2⟩))
            refine hK.out _ _ (held_keep hbl hHeld1 hb2) (fun hHeld2 => ?_)
            clear hK K
            (try simp only [Act.put, List.setIfInBounds_toArray, List.set_cons_zero, List.set_cons_succ, List.getElem_toArray, List.getElem_cons_succ, List.getElem_cons_zero])
            refine held_take 13 _ _ rfl (by kernel_rfl) (by kernel_rfl) (by kernel_rfl) (fun _ _ _ h => h) (by rfl) hHeld2 (fun w hSw => by (try dsimp only at hSw); go_simp; try with_reducible rfl) ?_
            (try simp only [Act.put, List.setIfInBounds_toArray, List.set_cons_zero, List.set_cons_succ, List.getElem_toArray, List.getElem_cons_succ, List.getElem_cons_zero])
            refine held_take 14 _ _ rfl (by kernel_rfl) (by kernel_rfl) (by kernel_rfl) (fun _ _ _ h => h) (by rfl) hHeld2 (fun w hSw => by (try dsimp only at hSw); go_simp; try with_reducible rfl) ?_
            (try simp only [Act.put, List.setIfInBounds_toArray, List.set_cons_zero, List.set_cons_succ, List.getElem_toArray, List.getElem_cons_succ, List.getElem_cons_zero])
            refine held_take 15 _ _ rfl (by kernel_rfl) (by kernel_rfl) (by kernel_rfl) (fun _ _ _ h => h) (by rfl) hHeld2 (fun w hSw => by (try dsimp only at hSw); go_simp; try with_reducible rfl) ?_
            (try simp only [Act.put, List.setIfInBounds_toArray, List.set_cons_zero, List.set_cons_succ, List.getElem_toArray, List.getElem_cons_succ, List.getElem_cons_zero])
            refine held_take 16 _ _ rfl (by kernel_rfl) (by kernel_rfl) (by kernel_rfl) (fun _ _ _ h => h) (by rfl) hHeld2 (fun w hSw => by (try dsimp only at hSw); go_simp; try with_reducible rfl) ?_
            (try simp only [Act.put, List.setIfInBounds_toArray, List.set_cons_zero, List.set_cons_succ, List.getElem_toArray, List.getElem_cons_succ, List.getElem_cons_zero])
            refine wpAnyH_ready (rs := [17]) (by kernel_rfl) (by simp) ?_
            refine AllReadyH.cons rfl (fun K hK => ?_) AllReadyH.nil
            rw [if_pos (by rfl)]
            go_wp2_with (first | (go_at_call 50; (with_reducible refine (c3 _ hHeld2).mono ?_); rintro e w3 ⟨rfl, rfl⟩))
            refine hK.out _ _ (hHeld2) (fun hHeld3 => ?_)
            clear hK K
            (try simp only [Act.put, List.setIfInBounds_toArray, List.set_cons_zero, List.set_cons_succ, List.getElem_toArray, List.getElem_cons_succ, List.getElem_cons_zero])
            refine held_take 18 _ _ rfl (by kernel_rfl) (by kernel_rfl) (by kernel_rfl) (fun _ _ _ h => h) (by rfl) hHeld3 (fun w hSw => by (try dsimp only at hSw); go_simp; try with_reducible rfl) ?_
            (try simp only [Act.put, List.setIfInBounds_toArray, List.set_cons_zero, List.set_cons_succ, List.getElem_toArray, List.getElem_cons_succ, List.getElem_cons_zero])
            refine held_take 19 _ _ rfl (by kernel_rfl) (by kernel_rfl) (by kernel_rfl) (fun _ _ _ h => h) (by rfl) hHeld3 (fun w hSw => by (try dsimp only at hSw); go_simp; try with_reducible rfl) ?_
            (try simp only [Act.put, List.setIfInBounds_toArray, List.set_cons_zero, List.set_cons_succ, List.getElem_toArray, List.getElem_cons_succ, List.getElem_cons_zero])
            refine held_take 20 _ _ rfl (by kernel_rfl) (by kernel_rfl) (by kernel_rfl) (fun _ _ _ h => h) (by rfl) hHeld3 (fun w hSw => by (try dsimp only at hSw); go_simp; try with_reducible rfl) ?_
            (try simp only [Act.put, List.setIfInBounds_toArray, List.set_cons_zero, List.set_cons_succ, List.getElem_toArray, List.getElem_cons_succ, List.getElem_cons_zero])
            refine held_take 21 _ _ rfl (by kernel_rfl) (by kernel_rfl) (by kernel_rfl) (fun _ _ _ h => h) (by rfl) hHeld3 (fun w hSw => by (try dsimp only at hSw); go_simp; try with_reducible rfl) ?_
            (try simp only [Act.put, List.setIfInBounds_toArray, List.set_cons_zero, List.set_cons_succ, List.getElem_toArray, List.getElem_cons_succ, List.getElem_cons_zero])
            refine held_take 22 _ _ rfl (by kernel_rfl) (by kernel_rfl) (by kernel_rfl) (fun _ _ _ h => h) (by rfl) hHeld3 (fun w hSw => by (try dsimp only at hSw); go_simp; try with_reducible rfl) ?_
            (try simp only [Act.put, List.setIfInBounds_toArray, List.set_cons_zero, List.set_cons_succ, List.getElem_toArray, List.getElem_cons_succ, List.getElem_cons_zero])
            refine held_take 24 _ _ rfl (by kernel_rfl) (by kernel_rfl) (by kernel_rfl) (fun _ _ _ h => h) (by rfl) hHeld3 (fun w hSw => by (try dsimp only at hSw); go_simp; try with_reducible rfl) ?_
            (try simp only [Act.put, List.setIfInBounds_toArray, List.set_cons_zero, List.set_cons_succ, List.getElem_toArray, List.getElem_cons_succ, List.getElem_cons_zero])
            refine held_take 25 _ _ rfl (by kernel_rfl) (by kernel_rfl) (by kernel_rfl) (fun _ _ _ h => h) (by rfl) hHeld3 (fun w hSw => by (try dsimp only at hSw); go_simp; try with_reducible rfl) ?_
            (try simp only [Act.put, List.setIfInBounds_toArray, List.set_cons_zero, List.set_cons_succ, List.getElem_toArray, List.getElem_cons_succ, List.getElem_cons_zero])
            refine wpAnyH_ready (rs := [23]) (by kernel_rfl) (by simp) ?_
            refine AllReadyH.cons rfl (fun K hK => ?_) AllReadyH.nil
            rw [if_pos (by rfl)]
            go_wp2_with (first | (go_at_call 58; (with_reducible refine (c4 _ hHeld3).mono ?_); rintro e w4 ⟨v, rfl, ho, hb4⟩; obtain ⟨am, cm, rfl, rX⟩ := row_open ho; have c5 := spec_l2Same (minL G) G am a cm cap w4 rX.slv (HRW.out.below (Below.trans hHeld3.2 (hb4.mono hHeld3.2.size))) (by omega) (by omega); rw [HD5.out] at c5; clear rX ho))
            refine hK.out _ _ (held_keep hbl hHeld3 hb4) (fun hHeld4 => ?_)
            clear hK K
            (try simp only [Act.put, List.setIfInBounds_toArray, List.set_cons_zero, List.set_cons_succ, List.getElem_toArray, List.getElem_cons_succ, List.getElem_cons_zero])
            refine wpAnyH_ready (rs := [26]) (by kernel_rfl) (by simp) ?_
            refine AllReadyH.cons rfl (fun K hK => ?_) AllReadyH.nil
            rw [if_pos (by rfl)]
            go_wp2_with (first | (go_at_call 57; (with_reducible refine (c5).mono ?_); rintro e w5 ⟨rfl, hb5⟩))
            refine hK.out _ _ (held_keep hbl hHeld4 hb5) (fun hHeld5 => ?_)
            clear hK K
            (try simp only [Act.put, List.setIfInBounds_toArray, List.set_cons_zero, List.set_cons_succ, List.getElem_toArray, List.getElem_cons_succ, List.getElem_cons_zero])
            refine held_take 27 _ _ rfl (by kernel_rfl) (by kernel_rfl) (by kernel_rfl) (fun _ _ _ h => h) (by rfl) hHeld5 (fun w hSw => by (try dsimp only at hSw); go_simp; try with_reducible rfl) ?_
            (try simp only [Act.put, List.setIfInBounds_toArray, List.set_cons_zero, List.set_cons_succ, List.getElem_toArray, List.getElem_cons_succ, List.getElem_cons_zero])
            refine held_take 28 _ _ rfl (by kernel_rfl) (by kernel_rfl) (by kernel_rfl) (fun _ _ _ h => h) (by rfl) hHeld5 (fun w hSw => by (try dsimp only at hSw); go_simp; try with_reducible rfl) ?_
            (try simp only [Act.put, List.setIfInBounds_toArray, List.set_cons_zero, List.set_cons_succ, List.getElem_toArray, List.getElem_cons_succ, List.getElem_cons_zero])
            refine held_skip 29 _ rfl (by kernel_rfl) (by kernel_rfl) (by kernel_rfl) (fun _ _ _ h => h) (by rfl) hHeld5 ?_
            (try simp only [Act.put, List.setIfInBounds_toArray, List.set_cons_zero, List.set_cons_succ, List.getElem_toArray, List.getElem_cons_succ, List.getElem_cons_zero])
            refine held_skip 30 _ rfl (by kernel_rfl) (by kernel_rfl) (by kernel_rfl) (fun _ _ _ h => h) (by rfl) hHeld5 ?_
            (try simp only [Act.put, List.setIfInBounds_toArray, List.set_cons_zero, List.set_cons_succ, List.getElem_toArray, List.getElem_cons_succ, List.getElem_cons_zero])
            refine held_skip 31 _ rfl (by kernel_rfl) (by kernel_rfl) (by kernel_rfl) (fun _ _ _ h => h) (by rfl) hHeld5 ?_
            (try simp only [Act.put, List.setIfInBounds_toArray, List.set_cons_zero, List.set_cons_succ, List.getElem_toArray, List.getElem_cons_succ, List.getElem_cons_zero])
            refine held_take 32 _ _ rfl (by kernel_rfl) (by kernel_rfl) (by kernel_rfl) (fun _ _ _ h => h) (by rfl) hHeld5 (fun w hSw => by (try dsimp only at hSw); go_simp; try with_reducible rfl) ?_
            (try simp only [Act.put, List.setIfInBounds_toArray, List.set_cons_zero, List.set_cons_succ, List.getElem_toArray, List.getElem_cons_succ, List.getElem_cons_zero])
            refine held_take 33 _ _ rfl (by kernel_rfl) (by kernel_rfl) (by kernel_rfl) (fun _ _ _ h => h) (by rfl) hHeld5 (fun w hSw => by (try dsimp only at hSw); go_simp; try with_reducible rfl) ?_
            (try simp only [Act.put, List.setIfInBounds_toArray, List.set_cons_zero, List.set_cons_succ, List.getElem_toArray, List.getElem_cons_succ, List.getElem_cons_zero])
            refine wpAnyH_done (by kernel_rfl) ?_ _
            have hbz := hWb'.trans (hHeld5.2.mono (by omega))
            clear hHeld hHeld1 hHeld2 hHeld3 hHeld4 hHeld5
            go_wp2_with fail
            go_ret
            exact ⟨by rw [HR.out]; rfl, hbz⟩
          · have HR := Lib.hid (isSgB_last h0 h1 h2 h3 h4)
            rw [h0] at c1
            have c4 := c4 h0
            have c6 := c6 h0
            have hd1 : (G.length : Int) ≤ 12 := by rw [decide_eq_true_iff] at h1; omega
            rw [h2] at c2
            rw [show gcdL G = 1 from of_decide_eq_true h3] at c3
            have HD5 := Lib.hid h4
            clear h0 h1 h2 h3 h4
            generalize endsB G = ee at *
            go_enter Try.func20, Try.ntmps20
            go_wp2_with fail
            rw [← HWW.out]
            refine wp_region_held_drew (S := fun w' => w'.cell? ⟨w.heap.size, 0, none⟩ = some (.slice a G.length cap) ∧ Below W.heap.size W w') (by kernel_rfl) HW0.out (fun hHeld => ?_)
            refine held_take 0 _ _ rfl (by kernel_rfl) (by kernel_rfl) (by kernel_rfl) (fun _ _ _ h => h) (by rfl) hHeld (fun w hSw => by (try dsimp only at hSw); go_simp; try with_reducible rfl) ?_
            (try simp only [Act.put, List.setIfInBounds_toArray, List.set_cons_zero, List.set_cons_succ, List.getElem_toArray, List.getElem_cons_zero])
            refine held_take 1 _ _ rfl (by kernel_rfl) (by kernel_rfl) (by kernel_rfl) (fun _ _ _ h => h) (by rfl) hHeld (fun w hSw => by (try dsimp only at hSw); go_simp; try with_reducible rfl) ?_
            (try simp only [Act.put, List.setIfInBounds_toArray, List.set_cons_zero, List.set_cons_succ, List.getElem_toArray, List.getElem_cons_succ, List.getElem_cons_zero])
            refine wpAnyH_ready (rs := [2]) (by kernel_rfl) (by simp) ?_
            refine AllReadyH.cons rfl (fun K hK => ?_) AllReadyH.nil
            rw [if_pos (by rfl)]
            go_wp2_with (first | (go_at_call 48; (with_reducible refine (c1 _ hHeld).mono ?_); rintro e w2 ⟨rfl, rfl⟩))
            refine hK.out _ _ (hHeld) (fun hHeld1 => ?_)
            clear hK K
            (try simp only [Act.put, List.setIfInBounds_toArray, List.set_cons_zero, List.set_cons_succ, List.getElem_toArray, List.getElem_cons_succ, List.getElem_cons_zero])
            refine held_take 3 _ _ rfl (by kernel_rfl) (by kernel_rfl) (by kernel_rfl) (fun _ _ _ h => h) (by rfl) hHeld1 (fun w hSw => by (try dsimp only at hSw); go_simp; try with_reducible rfl) ?_
            (try simp only [Act.put, List.setIfInBounds_toArray, List.set_cons_zero, List.set_cons_succ, List.getElem_toArray, List.getElem_cons_succ, List.getElem_cons_zero])
            refine held_take 4 _ _ rfl (by kernel_rfl) (by kernel_rfl) (by kernel_rfl) (fun _ _ _ h => h) (by rfl) hHeld1 (fun w hSw => by (try dsimp only at hSw); go_simp; try with_reducible rfl) ?_
            (try simp only [Act.put, List.setIfInBounds_toArray, List.set_cons_zero, List.set_cons_succ, List.getElem_toArray, List.getElem_cons_succ, List.getElem_cons_zero])
            refine held_take 5 _ _ rfl (by kernel_rfl) (by kernel_rfl) (by kernel_rfl) (fun _ _ _ h => h) (by rfl) hHeld1 (fun w hSw => by (try dsimp only at hSw); go_simp; try with_reducible rfl) ?_
            (try simp only [Act.put, List.setIfInBounds_toArray, List.set_cons_zero, List.set_cons_succ, List.getElem_toArray, List.getElem_cons_succ, List.getElem_cons_zero])
            refine held_take 6 _ _ rfl (by kernel_rfl) (by kernel_rfl) (by kernel_rfl) (fun _ _ _ h => h) (by rfl) hHeld1 (fun w hSw => by (try dsimp only at hSw); go_simp; try with_reducible rfl) ?_
            (try simp only [Act.put, List.setIfInBounds_toArray, List.set_cons_zero, List.set_cons_succ, List.getElem_toArray, List.getElem_cons_succ, List.getElem_cons_zero])
            refine held_take 7 _ _ rfl (by kernel_rfl) (by kernel_rfl) (by kernel_rfl) (fun _ _ _ h => h) (by rfl) hHeld1 (fun w hSw => by (try dsimp only at hSw); go_simp; try with_reducible rfl) ?_
            (try simp only [Act.put, List.setIfInBounds_toArray, List.set_cons_zero, List.set_cons_succ, List.getElem_toArray, List.getElem_cons_succ, List.getElem_cons_zero])
            refine held_take 8 _ _ rfl (by kernel_rfl) (by kernel_rfl) (by kernel_rfl) (fun _ _ _ h => h) (by rfl) hHeld1 (fun w hSw => by (try dsimp only at hSw); go_simp; try with_reducible rfl) ?_
            (try simp only [Act.put, List.setIfInBounds_toArray, List.set_cons_zero, List.set_cons_succ, List.getElem_toArray, List.getElem_cons_succ, List.getElem_cons_zero])
            refine held_take 9 _ _ rfl (by kernel_rfl) (by kernel_rfl) (by kernel_rfl) (fun _ _ _ h => h) (by rfl) hHeld1 (fun w hSw => by (try dsimp only at hSw); go_simp; try with_reducible rfl) ?_
            (try simp only [Act.put, List.setIfInBounds_toArray, List.set_cons_zero, List.set_cons_succ, List.getElem_toArray, List.getElem_cons_succ, List.getElem_cons_zero])
            refine held_take 10 _ _ rfl (by kernel_rfl) (by kernel_rfl) (by kernel_rfl) (fun _ _ _ h => h) (by rfl) hHeld1 (fun w hSw => by (try dsimp only at hSw); go_simp; try with_reducible rfl) ?_
            (try simp only [Act.put, List.setIfInBounds_toArray, List.set_cons_zero, List.set_cons_succ, List.getElem_toArray, List.getElem_cons_succ, List.getElem_cons_zero])
            refine held_take 11 _ _ rfl (by kernel_rfl) (by kernel_rfl) (by kernel_rfl) (fun _ _ _ h => h) (by rfl) hHeld1 (fun w hSw => by (try dsimp only at hSw); go_simp; try with_reducible rfl) ?_
            (try simp only [Act.put, List.setIfInBounds_toArray, List.set_cons_zero, List.set_cons_succ, List.getElem_toArray, List.getElem_cons_succ, List.getElem_cons_zero])
            refine wpAnyH_ready (rs := [12]) (by kernel_rfl) (by simp) ?_
            refine AllReadyH.cons rfl (fun K hK => ?_) AllReadyH.nil
            rw [if_pos (by rfl)]
            go_wp2_with (first | (go_at_call 56; (with_reducible refine (c2 _ hHeld1).mono ?_); rintro e w2 ⟨rfl, hb2⟩))
            refine hK.out _ _ (held_keep hbl hHeld1 hb2) (fun hHeld2 => ?_)
            clear hK K
            (try simp only [Act.put, List.setIfInBounds_toArray, List.set_cons_zero, List.set_cons_succ, List.getElem_toArray, List.getElem_cons_succ, List.getElem_cons_zero])
            refine held_take 13 _ _ rfl (by kernel_rfl) (by kernel_rfl) (by kernel_rfl) (fun _ _ _ h => h) (by rfl) hHeld2 (fun w hSw => by (try dsimp only at hSw); go_simp; try with_reducible rfl) ?_
            (try simp only [Act.put, List.setIfInBounds_toArray, List.set_cons_zero, List.set_cons_succ, List.getElem_toArray, List.getElem_cons_succ, List.getElem_cons_zero])
            refine held_take 14 _ _ rfl (by kernel_rfl) (by kernel_rfl) (by kernel_rfl) (fun _ _ _ h => h) (by rfl) hHeld2 (fun w hSw => by (try dsimp only at hSw); go_simp; try with_reducible rfl) ?_
            (try simp only [Act.put, List.setIfInBounds_toArray, List.set_cons_zero, List.set_cons_succ, List.getElem_toArray, List.getElem_cons_succ, List.getElem_cons_zero])
            refine held_take 15 _ _ rfl (by kernel_rfl) (by kernel_rfl) (by kernel_rfl) (fun _ _ _ h => h) (by rfl) hHeld2 (fun w hSw => by (try dsimp only at hSw); go_simp; try with_reducible rfl) ?_
            (try simp only [Act.put, List.setIfInBounds_toArray, List.set_cons_zero, List.set_cons_succ, List.getElem_toArray, List.getElem_cons_succ, List.getElem_cons_zero])
            refine held_take 16 _ _ rfl (by kernel_rfl) (by kernel_rfl) (by kernel_rfl) (fun _ _ _ h => h) (by rfl) hHeld2 (fun w hSw => by (try dsimp only at hSw); go_simp; try with_reducible rfl) ?_
            (try simp only [Act.put, List.setIfInBounds_toArray, List.set_cons_zero, List.set_cons_succ, List.getElem_toArray, List.getElem_cons_succ, List.getElem_cons_zero])
            refine wpAnyH_ready (rs := [17]) (by kernel_rfl) (by simp) ?_
            refine AllReadyH.cons rfl (fun K hK => ?_) AllReadyH.nil
            rw [if_pos (by rfl)]
            go_wp2_with (first | (go_at_call 50; (with_reducible refine (c3 _ hHeld2).mono ?_); rintro e w3 ⟨rfl, rfl⟩))
            refine hK.out _ _ (hHeld2) (fun hHeld3 => ?_)
            clear hK K
            (try simp only [Act.put, List.setIfInBounds_toArray, List.set_cons_zero, List.set_cons_succ, List.getElem_toArray, List.getElem_cons_succ, List.getElem_cons_zero])
            refine held_take 18 _ _ rfl (by kernel_rfl) (by kernel_rfl) (by kernel_rfl) (fun _ _ _ h => h) (by rfl) hHeld3 (fun w hSw => by (try dsimp only at hSw); go_simp; try with_reducible rfl) ?_
            (try simp only [Act.put, List.setIfInBounds_toArray, List.set_cons_zero, List.set_cons_succ, List.getElem_toArray, List.getElem_cons_succ, List.getElem_cons_zero])
            refine held_take 19 _ _ rfl (by kernel_rfl) (by kernel_rfl) (by kernel_rfl) (fun _ _ _ h => h) (by rfl) hHeld3 (fun w hSw => by (try dsimp only at hSw); go_simp; try with_reducible rfl) ?_
            (try simp only [Act.put, List.setIfInBounds_toArray, List.set_cons_zero, List.set_cons_succ, List.getElem_toArray, List.getElem_cons_succ, List.getElem_cons_zero])
            refine held_take 20 _ _ rfl (by kernel_rfl) (by kernel_rfl) (by kernel_rfl) (fun _ _ _ h => h) (by rfl) hHeld3 (fun w hSw => by (try dsimp only at hSw); go_simp; try with_reducible rfl) ?_
            (try simp only [Act.put, List.setIfInBounds_toArray, List.set_cons_zero, List.set_cons_succ, List.getElem_toArray, List.getElem_cons_succ, List.getElem_cons_zero])
            refine held_take 21 _ _ rfl (by kernel_rfl) (by kernel_rfl) (by kernel_rfl) (fun _ _ _ h => h) (by rfl) hHeld3 (fun w hSw => by (try dsimp only at hSw); go_simp; try with_reducible rfl) ?_
            (try simp only [Act.put, List.setIfInBounds_toArray, List.set_cons_zero, List.set_cons_succ, List.getElem_toArray, List.getElem_cons_succ, List.getElem_cons_zero])
            refine held_take 22 _ _ rfl (by kernel_rfl) (by kernel_rfl) (by kernel_rfl) (fun _ _ _ h => h) (by rfl) hHeld3 (fun w hSw => by (try dsimp only at hSw); go_simp; try with_reducible rfl) ?_
            (try simp only [Act.put, List.setIfInBounds_toArray, List.set_cons_zero, List.set_cons_succ, List.getElem_toArray, List.getElem_cons_succ, List.getElem_cons_zero])
            refine held_take 24 _ _ rfl (by kernel_rfl) (by kernel_rfl) (by kernel_rfl) (fun _ _ _ h => h) (by rfl) hHeld3 (fun w hSw => by (try dsimp only at hSw); go_simp; try with_reducible rfl) ?_
            (try simp only [Act.put, List.setIfInBounds_toArray, List.set_cons_zero, List.set_cons_succ, List.getElem_toArray, List.getElem_cons_succ, List.getElem_cons_zero])
            refine held_take 25 _ _ rfl (by kernel_rfl) (by kernel_rfl) (by kernel_rfl) (fun _ _ _ h => h) (by rfl) hHeld3 (fun w hSw => by (try dsimp only at hSw); go_simp; try with_reducible rfl) ?_
            (try simp only [Act.put, List.setIfInBounds_toArray, List.set_cons_zero, List.set_cons_succ, List.getElem_toArray, List.getElem_cons_succ, List.getElem_cons_zero])
            refine wpAnyH_ready (rs := [23]) (by kernel_rfl) (by simp) ?_
            refine AllReadyH.cons rfl (fun K hK => ?_) AllReadyH.nil
            rw [if_pos (by rfl)]
            go_wp2_with (first | (go_at_call 58; (with_reducible refine (c4 _ hHeld3).mono ?_); rintro e w4 ⟨v, rfl, ho, hb4⟩; obtain ⟨am, cm, rfl, rX⟩ := row_open ho; have c5 := spec_l2Same (minL G) G am a cm cap w4 rX.slv (HRW.out.below (Below.trans hHeld3.2 (hb4.mono hHeld3.2.size))) (by omega) (by omega); rw [HD5.out] at c5; clear rX ho))
            refine hK.out _ _ (held_keep hbl hHeld3 hb4) (fun hHeld4 => ?_)
            clear hK K
            (try simp only [Act.put, List.setIfInBounds_toArray, List.set_cons_zero, List.set_cons_succ, List.getElem_toArray, List.getElem_cons_succ, List.getElem_cons_zero])
            refine wpAnyH_ready (rs := [26]) (by kernel_rfl) (by simp) ?_
            refine AllReadyH.cons rfl (fun K hK => ?_) AllReadyH.nil
            rw [if_pos (by rfl)]
            go_wp2_with (first | (go_at_call 57; (with_reducible refine (c5).mono ?_); rintro e w5 ⟨rfl, hb5⟩))
            refine hK.out _ _ (held_keep hbl hHeld4 hb5) (fun hHeld5 => ?_)
            clear hK K
            (try simp only [Act.put, List.setIfInBounds_toArray, List.set_cons_zero, List.set_cons_succ, List.getElem_toArray, List.getElem_cons_succ, List.getElem_cons_zero])
            refine held_take 27 _ _ rfl (by kernel_rfl) (by kernel_rfl) (by kernel_rfl) (fun _ _ _ h => h) (by rfl) hHeld5 (fun w hSw => by (try dsimp only at hSw); go_simp; try with_reducible rfl) ?_
            (try simp only [Act.put, List.setIfInBounds_toArray, List.set_cons_zero, List.set_cons_succ, List.getElem_toArray, List.getElem_cons_succ, List.getElem_cons_zero])
            refine held_take 28 _ _ rfl (by kernel_rfl) (by kernel_rfl) (by kernel_rfl) (fun _ _ _ h => h) (by rfl) hHeld5 (fun w hSw => by (try dsimp only at hSw); go_simp; try with_reducible rfl) ?_
            (try simp only [Act.put, List.setIfInBounds_toArray, List.set_cons_zero, List.set_cons_succ, List.getElem_toArray, List.getElem_cons_succ, List.getElem_cons_zero])
            refine held_take 29 _ _ rfl (by kernel_rfl) (by kernel_rfl) (by kernel_rfl) (fun _ _ _ h => h) (by rfl) hHeld5 (fun w hSw => by (try dsimp only at hSw); go_simp; try with_reducible rfl) ?_
            (try simp only [Act.put, List.setIfInBounds_toArray, List.set_cons_zero, List.set_cons_succ, List.getElem_toArray, List.getElem_cons_succ, List.getElem_cons_zero])
            refine held_take 30 _ _ rfl (by kernel_rfl) (by kernel_rfl) (by kernel_rfl) (fun _ _ _ h => h) (by rfl) hHeld5 (fun w hSw => by (try dsimp only at hSw); go_simp; try with_reducible rfl) ?_
            (try simp only [Act.put, List.setIfInBounds_toArray, List.set_cons_zero, List.set_cons_succ, List.getElem_toArray, List.getElem_cons_succ, List.getElem_cons_zero])
            refine wpAnyH_ready (rs := [31]) (by kernel_rfl) (by simp) ?_
            refine AllReadyH.cons rfl (fun K hK => ?_) AllReadyH.nil
            rw [if_pos (by rfl)]
            go_wp2_with (first | (go_at_call 59; (with_reducible refine (c6 _ hHeld5).mono ?_); rintro e w6 ⟨rfl, hb6⟩))
            refine hK.out _ _ (held_keep hbl hHeld5 hb6) (fun hHeld6 => ?_)
            clear hK K
            (try simp only [Act.put, List.setIfInBounds_toArray, List.set_cons_zero, List.set_cons_succ, List.getElem_toArray, List.getElem_cons_succ, List.getElem_cons_zero])
            refine held_take 32 _ _ rfl (by kernel_rfl) (by kernel_rfl) (by kernel_rfl) (fun _ _ _ h => h) (by rfl) hHeld6 (fun w hSw => by (try dsimp only at hSw); go_simp; try with_reducible rfl) ?_
            (try simp only [Act.put, List.setIfInBounds_toArray, List.set_cons_zero, List.set_cons_succ, List.getElem_toArray, List.getElem_cons_succ, List.getElem_cons_zero])
            refine held_take 33 _ _ rfl (by kernel_rfl) (by kernel_rfl) (by kernel_rfl) (fun _ _ _ h => h) (by rfl) hHeld6 (fun w hSw => by (try dsimp only at hSw); go_simp; try with_reducible rfl) ?_
            (try simp only [Act.put, List.setIfInBounds_toArray, List.set_cons_zero, List.set_cons_succ, List.getElem_toArray, List.getElem_cons_succ, List.getElem_cons_zero])
            refine wpAnyH_done (by kernel_rfl) ?_ _
            have hbz := hWb'.trans (hHeld6.2.mono (by omega))
            clear hHeld hHeld1 hHeld2 hHeld3 hHeld4 hHeld5 hHeld6
            go_wp2_with fail
            go_ret
            exact ⟨by rw [HR.out]; rfl, hbz⟩
end Go.Proofs.Ytnbnkjmellmmlaa

/-
  CONTRACTS of the reference's chapter 3, last part: l3Has, Contains, MultiplicityOf, DimensionOf, EqualSemigroup, FromGens.
-/
namespace Go.Proofs.Ytnbnkjmellmmlaa
open Go Go.RowKit

/-- A struct of one slice in a variable of its own. -/
theorem box_cell (w : World) (v : Value) : (w.alloc (.cells #[v] 30)).cell? ⟨w.heap.size, 0, none⟩ = some v := (Arr.new w 30 [v]).cell 0
theorem box_below (w : World) (o : Obj) : Below w.heap.size w (w.alloc o) := (Below.refl _ _).alloc (Nat.le_refl _) _

set_option maxRecDepth 100000 in
set_option maxHeartbeats 800000 in
theorem spec_l3Has (G : List Int) (n : Int) (a : Option Addr) (cap : Nat) (w : World) (hr : SlV w a (G.map (Value.int .i64))) (hs : isSgB G = true) :
    Calls Try.prog 61 #[.agg #[.slice a G.length cap], .int .i64 n] w fun e w' => e = .returned (.bool (hasN G n)) ∧ Below w.heap.size w w' := by
  by_cases h0 : n < 0
  · have HR := Lib.hid (hasN_neg (G := G) h0)
    have h1 : ¬ 0 < n := by omega
    clear hr hs
    go_enter Try.func61, Try.ntmps61
    go_wp2_with fail
    go_ret
    exact ⟨by rw [HR.out]; rfl, box_below _ _⟩
  · by_cases h2 : 200 ≤ n
    · have HR := Lib.hid (hasN_far hs h2)
      have h1 : 0 < n := by omega
      clear hr hs
      go_enter Try.func61, Try.ntmps61
      go_wp2_with fail
      go_ret
      exact ⟨by rw [HR.out]; rfl, box_below _ _⟩
    · obtain ⟨N, rfl⟩ : ∃ N : Nat, n = (N : Int) := ⟨n.toNat, by omega⟩
      have HR := Lib.hid (hasN_in hs N)
      have hS := isSgB_iff.1 hs
      have hl := hS.len
      have hb0 := box_below w (.cells #[.slice a G.length cap] 30)
      have ct := spec_l3Table G a cap N (w.alloc (.cells #[.slice a G.length cap] 30)) (hr.below hb0) (by omega) (okG_pos hS.ok) (by omega)
      have hsz : w.heap.size ≤ (w.alloc (.cells #[.slice a G.length cap] 30)).heap.size := by simp
      clear hr hs hS
      go_enter Try.func61, Try.ntmps61
      go_wp2_with fail
      refine ct.mono ?_
      rintro e w1 ⟨v, rfl, ho, hb1⟩
      obtain ⟨g, c, rfl, ht⟩ := tab_last ho
      have hc := ht N (Nat.le_refl _)
      have hbz := hb0.trans (hb1.mono hsz)
      have hx0 : (0 : Int) ≤ (N : Int) := by omega
      have hx1 : (N : Int) < (N : Int) + 1 := by omega
      clear ct ho ht hb0 hb1
      generalize sumB G N = q at *
      go_wp2_with fail
      go_ret
      exact ⟨by rw [HR.out]; rfl, hbz⟩

set_option maxRecDepth 100000 in
set_option maxHeartbeats 800000 in
theorem spec_Contains (G : List Int) (n : Int) (a : Option Addr) (cap : Nat) (w : World) (hr : SlV w a (G.map (Value.int .i64))) (hb : G.length ≤ 1048576) :
    Calls Try.prog 24 #[.agg #[.slice a G.length cap], .int .i64 n] w fun e w' => e = .returned (.bool (hasN G n)) ∧ Below w.heap.size w w' := by
  have hb0 := box_below w (.cells #[.slice a G.length cap] 30)
  have hc0 := box_cell w (.slice a G.length cap)
  have hsz : w.heap.size < (w.alloc (.cells #[.slice a G.length cap] 30)).heap.size := by simp
  have c1 := spec_IsSemigroup G a cap (w.alloc (.cells #[.slice a G.length cap] 30)) (hr.below hb0) hb
  cases hs : isSgB G
  · have HR := Lib.hid (hasN_not hs n)
    rw [hs] at c1
    clear hr hs
    go_enter Try.func24, Try.ntmps24
    go_wp2_with fail
    refine c1.mono ?_
    rintro e w1 ⟨rfl, hb1⟩
    have hbz := hb0.trans (hb1.mono (Nat.le_of_lt hsz))
    go_wp2_with fail
    go_ret
    exact ⟨by rw [HR.out]; rfl, hbz⟩
  · rw [hs] at c1
    have c2 := fun w1 (h : SlV w1 a (G.map (Value.int .i64))) => spec_l3Has G n a cap w1 h hs
    have HSL := Lib.hid hr
    clear hr hs
    generalize hasN G n = q at *
    go_enter Try.func24, Try.ntmps24
    go_wp2_with fail
    refine c1.mono ?_
    rintro e w1 ⟨rfl, hb1⟩
    have hbz := hb0.trans (hb1.mono (Nat.le_of_lt hsz))
    have hc1 : w1.cell? ⟨w.heap.size, 0, none⟩ = some (.slice a G.length cap) := (hb1.cell (p := ⟨w.heap.size, 0, none⟩) hsz).trans hc0
    have hx := c2 w1 (HSL.out.below hbz)
    clear c1 c2 hc0 hb1 hb0
    go_wp2_with fail
    refine hx.mono ?_
    rintro e w2 ⟨rfl, hb2⟩
    have hbz2 := hbz.trans (hb2.mono hbz.size)
    go_wp2_with fail
    go_ret
    exact ⟨rfl, hbz2⟩

set_option maxRecDepth 100000 in
set_option maxHeartbeats 800000 in
theorem spec_MultiplicityOf (G : List Int) (a : Option Addr) (cap : Nat) (w : World) (hr : SlV w a (G.map (Value.int .i64))) (hb : G.length ≤ 1048576) :
    Calls Try.prog 31 #[.agg #[.slice a G.length cap]] w fun e w' => e = .returned (.int .i64 (multN G)) ∧ Below w.heap.size w w' := by
  have hb0 := box_below w (.cells #[.slice a G.length cap] 30)
  have hc0 := box_cell w (.slice a G.length cap)
  have hsz : w.heap.size < (w.alloc (.cells #[.slice a G.length cap] 30)).heap.size := by simp
  have c1 := spec_IsSemigroup G a cap (w.alloc (.cells #[.slice a G.length cap] 30)) (hr.below hb0) hb
  cases hs : isSgB G
  · have HR : Hid (multN G = 0) := Lib.hid (by unfold multN; rw [hs]; rfl)
    rw [hs] at c1
    clear hr hs
    go_enter Try.func31, Try.ntmps31
    go_wp2_with fail
    refine c1.mono ?_
    rintro e w1 ⟨rfl, hb1⟩
    have hbz := hb0.trans (hb1.mono (Nat.le_of_lt hsz))
    go_wp2_with fail
    go_ret
    exact ⟨by rw [HR.out]; rfl, hbz⟩
  · rw [hs] at c1
    obtain ⟨x, r, rfl⟩ : ∃ x r, G = x :: r := by
      cases G with
      | nil => rw [isSgB_nil] at hs; cases hs
      | cons x r => exact ⟨x, r, rfl⟩
    have HR : Hid (multN (x :: r) = x) := Lib.hid (by unfold multN; rw [hs]; rfl)
    obtain ⟨b, off, rfl, hbs, hc⟩ := hr.open (by simp)
    have hcell : w.cell? ⟨b, off, none⟩ = some (.int .i64 x) := by have := hc 0 (.int .i64 x) (by simp); simpa using this
    clear hr hs hc
    have hlen : 0 < (x :: r).length := by simp
    generalize (x :: r).length = L at *
    go_enter Try.func31, Try.ntmps31
    go_wp2_with fail
    refine c1.mono ?_
    rintro e w1 ⟨rfl, hb1⟩
    have hbz := hb0.trans (hb1.mono (Nat.le_of_lt hsz))
    have hc1 : w1.cell? ⟨w.heap.size, 0, none⟩ = some (.slice (some ⟨b, off, none⟩) L cap) := (hb1.cell (p := ⟨w.heap.size, 0, none⟩) hsz).trans hc0
    have hc2 : w1.cell? ⟨b, off, none⟩ = some (.int .i64 x) := (hbz.cell (p := ⟨b, off, none⟩) hbs).trans hcell
    clear c1 hc0 hb1 hb0 hcell
    go_wp2_with fail
    go_ret
    exact ⟨by rw [HR.out]; rfl, hbz⟩

set_option maxRecDepth 100000 in
set_option maxHeartbeats 800000 in
theorem spec_DimensionOf (G : List Int) (a : Option Addr) (cap : Nat) (w : World) (hr : SlV w a (G.map (Value.int .i64))) (hb : G.length ≤ 1048576) :
    Calls Try.prog 33 #[.agg #[.slice a G.length cap]] w fun e w' => e = .returned (.int .i64 (dimN G)) ∧ Below w.heap.size w w' := by
  have hb0 := box_below w (.cells #[.slice a G.length cap] 30)
  have hc0 := box_cell w (.slice a G.length cap)
  have hsz : w.heap.size < (w.alloc (.cells #[.slice a G.length cap] 30)).heap.size := by simp
  have c1 := spec_IsSemigroup G a cap (w.alloc (.cells #[.slice a G.length cap] 30)) (hr.below hb0) hb
  cases hs : isSgB G
  · have HR : Hid (dimN G = 0) := Lib.hid (by unfold dimN; rw [hs]; rfl)
    rw [hs] at c1
    clear hr hs
    go_enter Try.func33, Try.ntmps33
    go_wp2_with fail
    refine c1.mono ?_
    rintro e w1 ⟨rfl, hb1⟩
    have hbz := hb0.trans (hb1.mono (Nat.le_of_lt hsz))
    go_wp2_with fail
    go_ret
    exact ⟨by rw [HR.out]; rfl, hbz⟩
  · have HR : Hid (dimN G = (G.length : Int)) := Lib.hid (by unfold dimN; rw [hs]; rfl)
    rw [hs] at c1
    clear hr hs
    go_enter Try.func33, Try.ntmps33
    go_wp2_with fail
    refine c1.mono ?_
    rintro e w1 ⟨rfl, hb1⟩
    have hbz := hb0.trans (hb1.mono (Nat.le_of_lt hsz))
    have hc1 : w1.cell? ⟨w.heap.size, 0, none⟩ = some (.slice a G.length cap) := (hb1.cell (p := ⟨w.heap.size, 0, none⟩) hsz).trans hc0
    clear c1 hc0 hb1 hb0
    go_wp2_with fail
    go_ret
    exact ⟨by rw [HR.out]; rfl, hbz⟩


/-- A call made a semigroup of a row of ints of its own, and says whether it did. -/
def SgPost (M : List Int) (b : Bool) (w : World) (e : Ending) (w' : World) : Prop :=
  ∃ v, e = .returned (.tuple #[.agg #[v], .bool b]) ∧ w'.ownsRow w.heap.size 3 1 v M.length (M.map (Value.int .i64)) ∧ Below w.heap.size w w'

set_option maxRecDepth 100000 in
set_option maxHeartbeats 800000 in
theorem spec_FromGens (L : List Int) (a : Option Addr) (cap : Nat) (w : World) (hr : SlV w a (L.map (Value.int .i64))) (hb : L.length ≤ 1048576) :
    Calls Try.prog 26 #[.slice a L.length cap] w (SgPost (fromL L) (fromB L) w) := by
  have hb0 := box_below w (.cells #[.slice none 0 0] 30)
  have hsz : w.heap.size < (w.alloc (.cells #[.slice none 0 0] 30)).heap.size := by simp
  have c1 := spec_l3Gens L a cap (w.alloc (.cells #[.slice none 0 0] 30)) (hr.below hb0) hb
  cases hok : okG L
  · have hf : fromB L = false := by unfold fromB; rw [hok]; rfl
    have HR := Lib.hid hf
    rw [hok] at c1
    clear hr hok hf
    go_enter Try.func26, Try.ntmps26
    go_wp2_with fail
    refine c1.mono ?_
    rintro e w1 ⟨rfl, rfl⟩
    go_wp2_with fail
    exact bodyPost_ret (v := .tuple #[.agg #[.slice none 0 0], .bool false]) (by simp [results, Try.results26, go_sem]) rfl ⟨_, by rw [HR.out], by rw [fromL_no HR.out]; exact World.ownsRow_nil _ _ _ _, hb0⟩
  · rw [hok] at c1
    obtain ⟨hG, -, hl2⟩ := okG_iff.1 hok
    have c2 := spec_l3Minimal L a cap (w.alloc (.cells #[.slice none 0 0] 30)) (hr.below hb0) hok
    have hml := minL_length_le L
    have hc0 := box_cell w (.slice none 0 0)
    have hf0 : (w.alloc (.cells #[.slice none 0 0] 30)).frozen? ⟨w.heap.size, 0, none⟩ = false := (Arr.new w 30 [.slice none 0 0]).frozen 0
    have HF : Hid (fromB L = isSgB (minL L)) := Lib.hid (by unfold fromB; rw [hok]; rfl)
    clear hr hok hG
    go_enter Try.func26, Try.ntmps26
    go_wp2_with fail
    refine c1.mono ?_
    rintro e w1 ⟨rfl, rfl⟩
    go_wp2_with fail
    refine c2.mono ?_
    rintro e w1 ⟨v, rfl, ho, hb1⟩
    obtain ⟨a1, k1, rfl, rX⟩ := row_open ho
    have hc1 : w1.cell? ⟨w.heap.size, 0, none⟩ = some (.slice none 0 0) := (hb1.cell (p := ⟨w.heap.size, 0, none⟩) hsz).trans hc0
    have hf1 : w1.frozen? ⟨w.heap.size, 0, none⟩ = false := (hb1.frozen (p := ⟨w.heap.size, 0, none⟩) hsz).trans hf0
    have hz1 := Nat.lt_of_lt_of_le hsz hb1.size
    have hbz1 := hb0.trans (hb1.mono (Nat.le_of_lt hsz))
    have hb2 := box_below w1 (.cells #[.slice a1 (minL L).length k1] 30)
    have hc2 := box_cell w1 (.slice a1 (minL L).length k1)
    have c3 := spec_IsSemigroup (minL L) a1 k1 (w1.alloc (.cells #[.slice a1 (minL L).length k1] 30)) (rX.slv.below hb2) (by omega)
    have hz2 : w1.heap.size < (w1.alloc (.cells #[.slice a1 (minL L).length k1] 30)).heap.size := by simp
    have hc12 : (w1.alloc (.cells #[.slice a1 (minL L).length k1] 30)).cell? ⟨w.heap.size, 0, none⟩ = some (.slice none 0 0) := (hb2.cell (p := ⟨w.heap.size, 0, none⟩) hz1).trans hc1
    have hf12 : (w1.alloc (.cells #[.slice a1 (minL L).length k1] 30)).frozen? ⟨w.heap.size, 0, none⟩ = false := (hb2.frozen (p := ⟨w.heap.size, 0, none⟩) hz1).trans hf1
    have hbz2 := hbz1.trans (hb2.mono hbz1.size)
    have HO := Lib.hid ho
    have hzz := Nat.lt_trans hz1 hz2
    clear c1 c2 ho rX hc0 hf0 hc1 hf1
    cases hs : isSgB (minL L)
    · have HR : Hid (fromB L = false) := Lib.hid (by rw [HF.out]; exact hs)
      rw [hs] at c3
      clear hs
      generalize (minL L).length = N at *
      go_wp2_with fail
      refine c3.mono ?_
      rintro e w3 ⟨rfl, hb3⟩
      have hc3 : w3.cell? ⟨w.heap.size, 0, none⟩ = some (.slice none 0 0) := (hb3.cell (p := ⟨w.heap.size, 0, none⟩) hzz).trans hc12
      have hf3 : w3.frozen? ⟨w.heap.size, 0, none⟩ = false := (hb3.frozen (p := ⟨w.heap.size, 0, none⟩) hzz).trans hf12
      have hbz3 := hbz2.trans (hb3.mono hbz2.size)
      clear c3 hc12 hf12 hb2 hc2 hb1 hb0
      go_wp2_with fail
      have hcf := World.cell?_setCell_same w3 ⟨w.heap.size, 0, none⟩ (.slice none 0 0) hc3
      exact bodyPost_ret (v := .tuple #[.agg #[.slice none 0 0], .bool false]) (by simp [results, Try.results26, go_sem, hcf]) rfl ⟨_, by rw [HR.out], by rw [fromL_no HR.out]; exact World.ownsRow_nil _ _ _ _, hbz3.setCell (Nat.le_refl _) _⟩
    · have HR : Hid (fromB L = true) := Lib.hid (by rw [HF.out]; exact hs)
      rw [hs] at c3
      clear hs
      generalize hN : (minL L).length = N at *
      have HN := Lib.hid hN
      clear hN
      go_wp2_with fail
      refine c3.mono ?_
      rintro e w3 ⟨rfl, hb3⟩
      have hc3 : w3.cell? ⟨w.heap.size, 0, none⟩ = some (.slice none 0 0) := (hb3.cell (p := ⟨w.heap.size, 0, none⟩) hzz).trans hc12
      have hf3 : w3.frozen? ⟨w.heap.size, 0, none⟩ = false := (hb3.frozen (p := ⟨w.heap.size, 0, none⟩) hzz).trans hf12
      have hcs : w3.cell? ⟨w1.heap.size, 0, none⟩ = some (.slice a1 N k1) := (hb3.cell (p := ⟨w1.heap.size, 0, none⟩) hz2).trans hc2
      have hbz3 := hbz2.trans (hb3.mono hbz2.size)
      clear c3 hc12 hf12 hc2 hb0
      go_wp2_with fail
      have hcf := World.cell?_setCell_same w3 ⟨w.heap.size, 0, none⟩ (.slice a1 N k1) hc3
      refine bodyPost_ret (v := .tuple #[.agg #[.slice a1 N k1], .bool true]) (by simp [results, Try.results26, go_sem, hcf]) rfl ⟨_, by rw [HR.out], ?_, hbz3.setCell (Nat.le_refl _) _⟩
      rw [fromL_yes HR.out]
      obtain rfl := HN.out
      have ho := HO.out
      refine ownsBase (row_kept ho fun j hj => ?_) (Nat.le_of_lt hsz)
      obtain ⟨hj1, hj2⟩ := ho.lt j hj
      rw [heap_setCell_other w3 ⟨w.heap.size, 0, none⟩ j _ (by show j ≠ w.heap.size; omega), hb3.block j (by omega), hb2.block j hj2]
end Go.Proofs.Ytnbnkjmellmmlaa
