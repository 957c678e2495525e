/-
  LEAST ELEMENTS OF CLASSES: no program. The least numbers with a property in each class by a modulus; what they tell of the greatest gap and of the number of gaps; the semigroup that has given ones. (Own work.)
-/
import Derived.Test.YtljfiiohiolbnaaCh4L
namespace Go.Proofs.Ytljfiiohiolbnaa
open Go

/-- From at on in steps of n: the first number with the property. -/
def apAt (p : Nat → Bool) (n : Nat) : Nat → Nat → Nat
  | 0, m => m
  | f + 1, m => if p m then m else apAt p n f (m + n)
def apOf (p : Nat → Bool) (n r : Nat) : Nat := apAt p n 260 r

theorem apAt_spec {p : Nat → Bool} {n : Nat} : ∀ (f m : Nat), (∃ k, k ≤ f ∧ p (m + k * n) = true) → ∃ k, apAt p n f m = m + k * n ∧ p (m + k * n) = true ∧ ∀ j, j < k → p (m + j * n) = false
  | 0, m, h => by
    obtain ⟨k, hk, hp⟩ := h
    obtain rfl : k = 0 := by omega
    exact ⟨0, by simp [apAt], hp, fun j hj => by omega⟩
  | f + 1, m, h => by
    unfold apAt
    cases hm : p m
    · obtain ⟨k, hk, hp⟩ := h
      obtain ⟨k', rfl⟩ : ∃ k', k = k' + 1 := by
        cases k with
        | zero => rw [Nat.zero_mul, Nat.add_zero, hm] at hp; cases hp
        | succ k' => exact ⟨k', rfl⟩
      have e : ∀ j, m + (j + 1) * n = m + n + j * n := fun j => by rw [Nat.succ_mul]; omega
      obtain ⟨q, h1, h2, h3⟩ := apAt_spec f (m + n) ⟨k', by omega, by rw [← e]; exact hp⟩
      refine ⟨q + 1, by rw [if_neg (by simp), h1, e], by rw [e]; exact h2, fun j hj => ?_⟩
      cases j with
      | zero => rw [Nat.zero_mul, Nat.add_zero]; exact hm
      | succ j => rw [e]; exact h3 j (by omega)
    · exact ⟨0, by simp, by simpa using hm, fun j hj => by omega⟩

/-- What a least number of a class is. -/
structure Least (p : Nat → Bool) (n r x : Nat) : Prop where
  cls : x % n = r
  has : p x = true
  min : ∀ y, y % n = r → p y = true → x ≤ y
theorem Least.unique {p : Nat → Bool} {n r x y : Nat} (h : Least p n r x) (k : Least p n r y) : x = y :=
  Nat.le_antisymm (h.min y k.cls k.has) (k.min x h.cls h.has)
theorem class_form {n r y : Nat} (h : y % n = r) : ∃ j, y = r + j * n := ⟨y / n, by rw [← h, Nat.mul_comm]; exact (Nat.mod_add_div y n).symm⟩

theorem apOf_least {p : Nat → Bool} (hp : ∀ m, 200 ≤ m → p m = true) {n r : Nat} (hn : 1 ≤ n) (hr : r < n) : Least p n r (apOf p n r) := by
  have h0 : 200 ≤ r + 200 * n := by
    have : 200 * 1 ≤ 200 * n := Nat.mul_le_mul_left _ hn
    omega
  obtain ⟨k, h1, h2, h3⟩ := apAt_spec (p := p) (n := n) 260 r ⟨200, by omega, hp _ h0⟩
  unfold apOf
  rw [h1]
  refine ⟨by rw [Nat.add_mul_mod_self_right, Nat.mod_eq_of_lt hr], h2, fun y hy hpy => ?_⟩
  obtain ⟨j, rfl⟩ := class_form hy
  rcases Nat.lt_or_ge j k with h | h
  · rw [h3 j h] at hpy; cases hpy
  · have := Nat.mul_le_mul_right n h; omega
theorem apOf_unique {p : Nat → Bool} (hp : ∀ m, 200 ≤ m → p m = true) {n r x : Nat} (hn : 1 ≤ n) (hr : r < n) (h : Least p n r x) : x = apOf p n r := h.unique (apOf_least hp hn hr)
theorem apOf_below {p : Nat → Bool} (hp : ∀ m, 200 ≤ m → p m = true) {n r : Nat} (hn : 1 ≤ n) (hr : r < n) (h : n ≤ apOf p n r) : p (apOf p n r - n) = false := by
  have hl := apOf_least hp hn hr
  cases hb : p (apOf p n r - n)
  · rfl
  · have := hl.min (apOf p n r - n) (by rw [← Nat.mod_eq_sub_mod h]; exact hl.cls) hb
    omega
theorem apOf_lt {p : Nat → Bool} (hp : ∀ m, 200 ≤ m → p m = true) {n r : Nat} (hn : 1 ≤ n) (hr : r < n) : apOf p n r < 200 + n := by
  rcases Nat.lt_or_ge (apOf p n r) n with h | h
  · omega
  · have h1 := apOf_below hp hn hr h
    rcases Nat.lt_or_ge (apOf p n r - n) 200 with h2 | h2
    · omega
    · rw [hp _ h2] at h1; cases h1
/-- Where n leads from elements to elements: an element is what is not less than the least of its class. -/
theorem has_iff {p : Nat → Bool} (hp : ∀ m, 200 ≤ m → p m = true) {n : Nat} (hn : 1 ≤ n) (hc : ∀ m, p m = true → p (m + n) = true) (y : Nat) : p y = true ↔ apOf p n (y % n) ≤ y := by
  have hr := Nat.mod_lt y (show 0 < n by omega)
  have hl := apOf_least hp hn hr
  refine ⟨fun h => hl.min y rfl h, fun h => ?_⟩
  obtain ⟨i, hi⟩ := class_form hl.cls
  obtain ⟨j, hj⟩ := class_form (rfl : y % n = y % n)
  have up : ∀ k, p (apOf p n (y % n) + k * n) = true := by
    intro k
    induction k with
    | zero => simpa using hl.has
    | succ k ih => rw [Nat.succ_mul, ← Nat.add_assoc]; exact hc _ ih
  have hij : i ≤ j := by
    rcases Nat.lt_or_ge j i with h' | h'
    · have := Nat.mul_lt_mul_of_pos_right h' (show 0 < n by omega); omega
    · exact h'
  have hm := Nat.mul_le_mul_right n hij
  have e : y = apOf p n (y % n) + (j - i) * n := by rw [Nat.sub_mul]; omega
  rw [e]; exact up _
theorem apOf_zero {p : Nat → Bool} (h0 : p 0 = true) {n : Nat} : apOf p n 0 = 0 := by unfold apOf apAt; rw [if_pos h0]

/-! ### The greatest of them -/
theorem foldl_max_ge (l : List Int) : ∀ m : Int, m ≤ l.foldl max m ∧ ∀ x ∈ l, x ≤ l.foldl max m := by
  induction l with
  | nil => exact fun m => ⟨Int.le_refl _, fun x hx => by simp at hx⟩
  | cons y l ih =>
    intro m
    obtain ⟨h1, h2⟩ := ih (max m y)
    refine ⟨by rw [List.foldl_cons]; omega, fun x hx => ?_⟩
    rw [List.foldl_cons]
    rcases List.mem_cons.1 hx with rfl | hx
    · omega
    · exact h2 x hx
theorem foldl_max_le {l : List Int} {b : Int} : ∀ m : Int, m ≤ b → (∀ x ∈ l, x ≤ b) → l.foldl max m ≤ b := by
  induction l with
  | nil => exact fun m h _ => h
  | cons y l ih =>
    intro m hm hl
    rw [List.foldl_cons]
    have hy := hl y (by simp)
    exact ih _ (by omega) fun x hx => hl x (by simp [hx])
/-- The least elements in the order of the remainders. -/
def apL (p : Nat → Bool) (n : Nat) : List Int := (List.range n).map fun r => (apOf p n r : Int)
theorem apL_length (p : Nat → Bool) (n : Nat) : (apL p n).length = n := by simp [apL]
theorem apL_get (p : Nat → Bool) (n r : Nat) (h : r < (apL p n).length) : (apL p n)[r] = (apOf p n r : Int) := by simp [apL]
theorem mem_apL {p : Nat → Bool} {n : Nat} {x : Int} : x ∈ apL p n ↔ ∃ r, r < n ∧ x = (apOf p n r : Int) := by
  unfold apL
  rw [List.mem_map]
  exact ⟨fun ⟨r, h, e⟩ => ⟨r, List.mem_range.1 h, e.symm⟩, fun ⟨r, h, e⟩ => ⟨r, List.mem_range.2 h, e.symm⟩⟩
/-- The greatest of them less n is the greatest number without the property. -/
theorem apL_max {p : Nat → Bool} (hp : ∀ m, 200 ≤ m → p m = true) {n : Nat} (hn : 1 ≤ n) (hc : ∀ m, p m = true → p (m + n) = true) : (apL p n).foldl max 0 = (endOf p 200 : Int) + (n : Int) - 1 := by
  have hfrom := endOf_from hp
  refine Int.le_antisymm (foldl_max_le 0 (by omega) fun x hx => ?_) ?_
  · obtain ⟨r, hr, rfl⟩ := mem_apL.1 hx
    rcases Nat.lt_or_ge (apOf p n r) n with h | h
    · omega
    · have h1 := apOf_below hp hn hr h
      rcases Nat.lt_or_ge (apOf p n r - n) (endOf p 200) with h2 | h2
      · omega
      · rw [hfrom _ h2] at h1; cases h1
  · obtain ⟨-, hall⟩ := foldl_max_ge (apL p n) 0
    by_cases h0 : endOf p 200 = 0
    · have hl := apOf_least hp hn (show n - 1 < n by omega)
      have h1 : n - 1 ≤ apOf p n (n - 1) := by
        have h2 := hl.cls
        have h3 := Nat.mod_le (apOf p n (n - 1)) n
        omega
      have h2 := hall _ (mem_apL.2 ⟨n - 1, by omega, rfl⟩)
      omega
    · have h1 := endOf_not p 200 h0
      have hr := Nat.mod_lt (endOf p 200 - 1) (show 0 < n by omega)
      have h2 : ¬ apOf p n ((endOf p 200 - 1) % n) ≤ endOf p 200 - 1 := fun h => by rw [(has_iff hp hn hc _).2 h] at h1; cases h1
      have hl := apOf_least hp hn hr
      have h3 := hall _ (mem_apL.2 ⟨_, hr, rfl⟩)
      obtain ⟨i, hi⟩ := class_form hl.cls
      obtain ⟨j, hj⟩ := class_form (rfl : (endOf p 200 - 1) % n = (endOf p 200 - 1) % n)
      have hji : j < i := by
        rcases Nat.lt_or_ge j i with h' | h'
        · exact h'
        · have := Nat.mul_le_mul_right n h'; omega
      have h4 := Nat.mul_le_mul_right n (show j + 1 ≤ i from hji)
      rw [Nat.succ_mul] at h4
      omega

/-! ### How many numbers have not the property -/
theorem sum_one (n r0 : Nat) (hr : r0 < n) (f g : Nat → Nat) (d : Nat) (h0 : g r0 = f r0 + d) (hne : ∀ r, r < n → r ≠ r0 → g r = f r) : ((List.range n).map g).sum = ((List.range n).map f).sum + d := by
  induction n with
  | zero => omega
  | succ n ih =>
    rw [List.range_succ, List.map_append, List.map_append, List.sum_append, List.sum_append]
    by_cases e : r0 = n
    · subst e
      have : (List.range r0).map g = (List.range r0).map f := List.map_congr_left fun r hr => hne r (by have := List.mem_range.1 hr; omega) (by have := List.mem_range.1 hr; omega)
      rw [this]; simp [h0]; omega
    · rw [ih (by omega) fun r h1 h2 => hne r (by omega) h2]
      simp [hne n (by omega) (fun h => e h.symm)]; omega
theorem sum_same (n : Nat) (f g : Nat → Nat) (h : ∀ r, r < n → g r = f r) : ((List.range n).map g).sum = ((List.range n).map f).sum := by
  rw [List.map_congr_left fun r hr => h r (List.mem_range.1 hr)]
/-- How many numbers of the class r are less than m. -/
theorem div_step {n r m : Nat} (hn : 1 ≤ n) (hr : r < n) : (m + 1 + n - 1 - r) / n = (m + n - 1 - r) / n + (if m % n = r then 1 else 0) := by
  have hd := Nat.mod_add_div m n
  have hm := Nat.mod_lt m (show 0 < n by omega)
  generalize m % n = a at *
  generalize m / n = q at *
  subst hd
  have key : ∀ t, t < n → ∀ k, (t + n * k) / n = k := fun t ht k => by rw [Nat.add_mul_div_left _ _ (by omega), Nat.div_eq_of_lt ht, Nat.zero_add]
  rcases Nat.lt_trichotomy a r with h | h | h
  · rw [if_neg (by omega)]
    have e1 : a + n * q + 1 + n - 1 - r = (a + n - r) + n * q := by omega
    have e2 : a + n * q + n - 1 - r = (a + n - 1 - r) + n * q := by omega
    rw [e1, e2, key _ (by omega), key _ (by omega)] <;> omega
  · subst h
    rw [if_pos rfl]
    have e1 : a + n * q + 1 + n - 1 - a = 0 + n * (q + 1) := by rw [Nat.mul_succ]; omega
    have e2 : a + n * q + n - 1 - a = (n - 1) + n * q := by omega
    rw [e1, e2, key _ (by omega), key _ (by omega)] <;> omega
  · rw [if_neg (by omega)]
    have e1 : a + n * q + 1 + n - 1 - r = (a - r) + n * (q + 1) := by rw [Nat.mul_succ]; omega
    have e2 : a + n * q + n - 1 - r = (a - 1 - r) + n * (q + 1) := by rw [Nat.mul_succ]; omega
    rw [e1, e2, key _ (by omega), key _ (by omega)] <;> omega
theorem div_self {n r m : Nat} (hn : 1 ≤ n) (hr : m % n = r) : (m + n - 1 - r) / n = m / n := by
  have hd := Nat.mod_add_div m n
  have hm := Nat.mod_lt m (show 0 < n by omega)
  rw [hr] at hd hm
  generalize m / n = q at *
  have e : m + n - 1 - r = (n - 1) + n * q := by omega
  rw [e, Nat.add_mul_div_left _ _ (by omega), Nat.div_eq_of_lt (by omega), Nat.zero_add]
theorem count_not {p : Nat → Bool} (hp : ∀ m, 200 ≤ m → p m = true) {n : Nat} (hn : 1 ≤ n) (hc : ∀ m, p m = true → p (m + n) = true) (N : Nat) :
    (upB (fun m => !p m) N).length = ((List.range n).map fun r => min (apOf p n r / n) ((N + n - 1 - r) / n)).sum := by
  induction N with
  | zero =>
    have : ((List.range n).map fun r => min (apOf p n r / n) ((0 + n - 1 - r) / n)).sum = ((List.range n).map fun _ => 0).sum := sum_same _ _ _ fun r hr => by
      rw [Nat.div_eq_of_lt (show 0 + n - 1 - r < n by omega)]; simp
    rw [this, upB_zero]
    have hz : ∀ l : List Nat, (l.map fun _ => 0).sum = 0 := fun l => by induction l with
      | nil => rfl
      | cons a l ih => simp [ih]
    rw [hz]; rfl
  | succ N ih =>
    have hr := Nat.mod_lt N (show 0 < n by omega)
    have hl := apOf_least hp hn hr
    have hi := has_iff hp hn hc N
    have hself := div_self (n := n) (r := N % n) (m := N) hn rfl
    have hstep := sum_one n (N % n) hr (fun r => min (apOf p n r / n) ((N + n - 1 - r) / n)) (fun r => min (apOf p n r / n) ((N + 1 + n - 1 - r) / n)) (if p N then 0 else 1)
      (by
        rw [div_step hn hr, if_pos rfl, hself]
        cases h : p N
        · have h1 : ¬ apOf p n (N % n) ≤ N := fun h' => by rw [hi.2 h'] at h; cases h
          have h2 : N / n < apOf p n (N % n) / n := by
            obtain ⟨i, hi'⟩ := class_form hl.cls
            have hd := Nat.mod_add_div N n
            have hq : apOf p n (N % n) / n = i := by rw [hi', Nat.add_mul_div_right _ _ (by omega), Nat.div_eq_of_lt hr, Nat.zero_add]
            rw [hq]
            rcases Nat.lt_or_ge (N / n) i with h' | h'
            · exact h'
            · have := Nat.mul_le_mul_right n h'
              rw [Nat.mul_comm (N / n) n] at this
              omega
          rw [if_neg (by simp)]
          omega
        · have h1 := hi.1 h
          have h2 := Nat.div_le_div_right (c := n) h1
          rw [if_pos rfl]
          omega)
      (fun r h1 h2 => by rw [div_step hn h1, if_neg (fun h => h2 h.symm), Nat.add_zero])
    rw [hstep, ← ih, upB_succ]
    cases p N <;> simp
/-- The quotients of the least elements add up to the number of those without the property. -/
theorem apL_genus {p : Nat → Bool} (hp : ∀ m, 200 ≤ m → p m = true) {n : Nat} (hn : 1 ≤ n) (hc : ∀ m, p m = true → p (m + n) = true) :
    ((List.range n).map fun r => apOf p n r / n).sum = (upB (fun m => !p m) 200).length := by
  rw [← upB_not_from hp (show 200 ≤ 200 + n + n by omega), count_not hp hn hc]
  refine sum_same _ _ _ fun r hr => ?_
  have h1 := apOf_lt hp hn hr
  have h2 := Nat.div_le_div_right (c := n) (show apOf p n r ≤ 200 + n + n + n - 1 - r by omega)
  omega
theorem sum_div (p : Nat → Bool) (n : Nat) : ((apL p n).map fun x => x / (n : Int)).sum = (((List.range n).map fun r => apOf p n r / n).sum : Nat) := by
  unfold apL
  generalize List.range n = l
  induction l with
  | nil => rfl
  | cons a l ih => simp only [List.map_cons, List.sum_cons, ih, Int.natCast_add]; congr 1

theorem inB_iff {x a b : Int} : inB x a b = true ↔ a ≤ x ∧ x ≤ b := by unfold inB; rw [Bool.and_eq_true, decide_eq_true_eq, decide_eq_true_eq]

/-! ### Chapter 6's answers -/
noncomputable def aperyL (G : List Int) (n : Int) : List Int := if hasN G n && inB n 1 60 then apL (sumB G) n.toNat else []
noncomputable def frobA (G : List Int) (n : Int) : Int := if aperyL G n = [] then -1 else (aperyL G n).foldl max 0 - n
noncomputable def genusA (G : List Int) (n : Int) : Int := if aperyL G n = [] then -1 else ((aperyL G n).map fun x => x / n).sum

structure ApIn (G : List Int) (N : Nat) : Prop where
  sg : isSgB G = true
  mem : IsSum G N
  pos : 1 ≤ N
  le : N ≤ 60
theorem ApIn.far {G : List Int} {N : Nat} (h : ApIn G N) : ∀ m, 200 ≤ m → sumB G m = true := fun m hm => sumB_iff.2 (endsB_iff.1 (isSgB_iff.1 h.sg).ends m hm)
theorem ApIn.step {G : List Int} {N : Nat} (h : ApIn G N) : ∀ m, sumB G m = true → sumB G (m + N) = true := fun _ hm => sumB_iff.2 ((sumB_iff.1 hm).plus h.mem)
theorem aperyL_in {G : List Int} {N : Nat} (h : ApIn G N) : aperyL G (N : Int) = apL (sumB G) N := by
  unfold aperyL
  rw [hasN_in h.sg, sumB_iff.2 h.mem, inB_mk (by have := h.pos; omega) (by have := h.le; omega)]
  simp
theorem apIn_of {G : List Int} {n : Int} (h : (hasN G n && inB n 1 60) = true) : ∃ N : Nat, n = (N : Int) ∧ ApIn G N := by
  rw [Bool.and_eq_true] at h
  obtain ⟨h1, h2⟩ := h
  have hb := inB_iff.1 h2
  unfold hasN at h1
  rw [Bool.and_eq_true, Bool.and_eq_true, sumB_iff] at h1
  exact ⟨n.toNat, by omega, h1.1.1, h1.2, by omega, by omega⟩
theorem aperyL_no {G : List Int} {n : Int} (h : (hasN G n && inB n 1 60) = false) : aperyL G n = [] := by unfold aperyL; rw [h]; rfl
theorem aperyL_cases (G : List Int) (n : Int) : aperyL G n = [] ∨ ∃ N : Nat, n = (N : Int) ∧ ApIn G N ∧ aperyL G n = apL (sumB G) N := by
  cases h : hasN G n && inB n 1 60
  · exact .inl (aperyL_no h)
  · obtain ⟨N, rfl, hN⟩ := apIn_of h
    exact .inr ⟨N, rfl, hN, aperyL_in hN⟩
theorem apL_ne {p : Nat → Bool} {n : Nat} (hn : 1 ≤ n) : apL p n ≠ [] := fun h => by have := apL_length p n; rw [h] at this; simp at this; omega
theorem aperyL_length {G : List Int} {N : Nat} (h : ApIn G N) : (aperyL G (N : Int)).length = N := by rw [aperyL_in h, apL_length]
theorem aperyL_len_le (G : List Int) (n : Int) : (aperyL G n).length ≤ 60 := by
  rcases aperyL_cases G n with h | ⟨N, rfl, hN, h⟩
  · rw [h]; simp
  · rw [h, apL_length]; exact hN.le
/-- FrobeniusByApery is FrobeniusOf. -/
theorem frobA_in {G : List Int} {N : Nat} (h : ApIn G N) : frobA G (N : Int) = frobN G := by
  unfold frobA
  rw [aperyL_in h, if_neg (apL_ne h.pos), apL_max h.far h.pos h.step]
  unfold frobN condNat
  rw [if_pos h.sg]
  split <;> omega
/-- GenusByApery is GenusOf. -/
theorem genusA_in {G : List Int} {N : Nat} (h : ApIn G N) : genusA G (N : Int) = genusN G := by
  unfold genusA
  rw [aperyL_in h, if_neg (apL_ne h.pos), sum_div, apL_genus h.far h.pos h.step]
  unfold genusN gapsL
  rw [if_pos h.sg, if_pos h.sg, List.length_map]
theorem frobA_no {G : List Int} {n : Int} (h : aperyL G n = []) : frobA G n = -1 ∧ genusA G n = -1 := by unfold frobA genusA; rw [if_pos h, if_pos h]; exact ⟨rfl, rfl⟩
/-- What FnApery asks of each place of the list. -/
theorem aperyL_at {G : List Int} {N : Nat} (h : ApIn G N) (r : Nat) (hr : r < N) : ∃ x : Nat, (aperyL G (N : Int))[r]? = some (x : Int) ∧ x % N = r ∧ sumB G x = true ∧ x < 260 ∧ (N ≤ x → sumB G (x - N) = false) := by
  have hl := apOf_least h.far h.pos hr
  have hlt := apOf_lt h.far h.pos hr
  refine ⟨apOf (sumB G) N r, ?_, hl.cls, hl.has, by have := h.le; omega, fun hx => apOf_below h.far h.pos hr hx⟩
  rw [aperyL_in h]
  unfold apL
  rw [List.getElem?_map, List.getElem?_range hr]; rfl

/-! ### The semigroup with given least elements -/
/-- A number that is no sum of two others. -/
def Irr (L : List Int) (x : Nat) : Prop := IsSum L x ∧ 1 ≤ x ∧ ∀ a b, 1 ≤ a → 1 ≤ b → a + b = x → IsSum L a → ¬ IsSum L b
theorem mem_minL_iff {L : List Int} (hL : Pos L) (x : Int) : x ∈ minL L ↔ 1 ≤ x ∧ Irr L x.toNat := by
  have hmem := (sortL_spec L).2
  constructor
  · intro h
    have hx := hL x (minL_mem h)
    refine ⟨hx, IsSum.gen (by rw [show ((x.toNat : Nat) : Int) = x by omega]; exact minL_mem h), by omega, fun a b ha hb hab sa sb => ?_⟩
    have hb' := (List.mem_filter.1 h).2
    have s1 := isSum_less (sa.mono fun y hy => (hmem y).2 hy) (show (a : Int) < x by omega)
    have s2 := isSum_less (sb.mono fun y hy => (hmem y).2 hy) (show (b : Int) < x by omega)
    have := s1.plus s2
    rw [hab] at this
    rw [sumB_iff.2 this] at hb'
    cases hb'
  · rintro ⟨hx, hs, -, hirr⟩
    obtain ⟨g, hg, hle, hrest⟩ := (isSum_step (show 1 ≤ x.toNat by omega)).1 hs
    have hg1 := hL _ hg
    have hgx : g = x.toNat := by
      rcases Nat.lt_or_ge g x.toNat with h | h
      · exact absurd hrest (hirr g (x.toNat - g) (by omega) (by omega) (by omega) (IsSum.gen hg))
      · omega
    refine List.mem_filter.2 ⟨(hmem x).2 (by rw [hgx] at hg; rwa [show ((x.toNat : Nat) : Int) = x by omega] at hg), ?_⟩
    cases hb : sumB ((sortL L).filter fun y => decide (y < x)) x.toNat
    · rfl
    · exfalso
      obtain ⟨k, hk, hkle, hkrest⟩ := (isSum_step (show 1 ≤ x.toNat by omega)).1 (sumB_iff.1 hb)
      obtain ⟨hk1, hk2⟩ := List.mem_filter.1 hk
      have hk3 : (k : Int) < x := by simpa using hk2
      have hkL := (hmem _).1 hk1
      have hk4 := hL _ hkL
      exact hirr k (x.toNat - k) (by omega) (by omega) (by omega) (IsSum.gen hkL) (hkrest.mono fun y hy => (hmem y).1 (List.mem_filter.1 hy).1)
theorem minL_congr {L M : List Int} (hL : Pos L) (hM : Pos M) (h : ∀ n, IsSum L n ↔ IsSum M n) : minL L = minL M := by
  refine asc_unique (minL_asc L) (minL_asc M) fun x => ?_
  rw [mem_minL_iff hL, mem_minL_iff hM]
  unfold Irr
  simp only [h]
theorem minL_sg {G L : List Int} (hG : isSgB G = true) (hL : Pos L) (h : ∀ n, IsSum L n ↔ IsSum G n) : minL L = G := by
  have hs := isSgB_iff.1 hG
  rw [minL_congr hL (fun x hx => (hs.bounds x hx).1) h, hs.min]

def apGens (l : List Int) : List Int := (l.length : Int) :: l.tail
/-- The numbers that FromApery takes. -/
def apTail (l : List Int) : Bool := l.tail.all fun x => inB x 1 260
noncomputable def fromApB (l : List Int) : Bool := inB (l.length : Int) 1 60 && apTail l && decide (aperyL (minL (apGens l)) (l.length : Int) = l)
noncomputable def fromApL (l : List Int) : List Int := if fromApB l then minL (apGens l) else []
theorem fromApL_yes {l : List Int} (h : fromApB l = true) : fromApL l = minL (apGens l) := by unfold fromApL; rw [if_pos h]
theorem fromApL_no {l : List Int} (h : fromApB l = false) : fromApL l = [] := by unfold fromApL; rw [h]; rfl
theorem fromApB_sg {l : List Int} (h : fromApB l = true) : ApIn (fromApL l) l.length ∧ aperyL (fromApL l) (l.length : Int) = l := by
  rw [fromApL_yes h]
  unfold fromApB at h
  rw [Bool.and_eq_true, Bool.and_eq_true, decide_eq_true_eq] at h
  obtain ⟨⟨h1, -⟩, h2⟩ := h
  have hb := inB_iff.1 h1
  refine ⟨?_, h2⟩
  rcases aperyL_cases (minL (apGens l)) (l.length : Int) with h3 | ⟨N, hN, h3, -⟩
  · rw [h3] at h2; rw [← h2] at hb; simp at hb
  · rwa [show l.length = N by omega]
/-- The sums of the modulus and the least elements are the elements. -/
theorem apGens_sums {G : List Int} {N : Nat} (h : ApIn G N) (n : Nat) : IsSum (apGens (aperyL G (N : Int))) n ↔ IsSum G n := by
  have hlen := aperyL_length h
  have hat := aperyL_at h
  constructor
  · intro hs
    induction hs with
    | zero => exact .zero
    | @add m g hg _ ih =>
      refine ih.plus ?_
      unfold apGens at hg
      rw [hlen] at hg
      rcases List.mem_cons.1 hg with e | hg
      · rw [show g = N by omega]; exact h.mem
      · obtain ⟨i, hi, e⟩ := List.getElem_of_mem hg
        rw [List.getElem_tail] at e
        rw [List.length_tail, hlen] at hi
        obtain ⟨x, hx, -, hs, -⟩ := hat (i + 1) (by omega)
        rw [List.getElem?_eq_getElem (by omega), e] at hx
        have := Option.some.inj hx
        rw [show g = x by omega]; exact sumB_iff.1 hs
  · intro hs
    have hi := (has_iff h.far h.pos h.step n).1 (sumB_iff.2 hs)
    have hr := Nat.mod_lt n (show 0 < N from h.pos)
    have hl := apOf_least h.far h.pos hr
    obtain ⟨i, hi1⟩ := class_form hl.cls
    obtain ⟨j, hj⟩ := class_form (rfl : n % N = n % N)
    have hij : i ≤ j := by
      rcases Nat.lt_or_ge j i with h' | h'
      · have := Nat.mul_lt_mul_of_pos_right h' (show 0 < N from h.pos); omega
      · exact h'
    have hm := Nat.mul_le_mul_right N hij
    have e : n = apOf (sumB G) N (n % N) + (j - i) * N := by rw [Nat.sub_mul]; omega
    rw [e]
    have hN : IsSum (apGens (aperyL G (N : Int))) N := IsSum.gen (by unfold apGens; rw [hlen]; simp)
    refine IsSum.plus ?_ (hN.times _)
    rcases Nat.eq_zero_or_pos (n % N) with h0 | h0
    · rw [h0, apOf_zero (sumB_zero G)]; exact .zero
    · refine IsSum.gen ?_
      unfold apGens
      refine List.mem_cons_of_mem _ ?_
      have hlt : n % N - 1 < (aperyL G (N : Int)).tail.length := by rw [List.length_tail, hlen]; omega
      have : (aperyL G (N : Int)).tail[n % N - 1] = (apOf (sumB G) N (n % N) : Int) := by
        rw [List.getElem_tail]
        have h1 : (aperyL G (N : Int))[n % N - 1 + 1]? = some (apOf (sumB G) N (n % N) : Int) := by
          rw [aperyL_in h, show n % N - 1 + 1 = n % N by omega]
          unfold apL
          rw [List.getElem?_map, List.getElem?_range hr]; rfl
        rw [List.getElem?_eq_getElem (by rw [hlen]; omega)] at h1
        exact Option.some.inj h1
      rw [← this]; exact List.getElem_mem _
theorem aperyL_tail {G : List Int} {N : Nat} (h : ApIn G N) : ∀ x ∈ (aperyL G (N : Int)).tail, 1 ≤ x ∧ x ≤ 260 := by
  intro x hx
  obtain ⟨i, hi, e⟩ := List.getElem_of_mem hx
  rw [List.getElem_tail] at e
  rw [List.length_tail, aperyL_length h] at hi
  obtain ⟨y, hy, hc, -, hlt, -⟩ := aperyL_at h (i + 1) (by omega)
  rw [List.getElem?_eq_getElem (by rw [aperyL_length h]; omega), e] at hy
  have := Option.some.inj hy
  have h0 : y ≠ 0 := fun h' => by rw [h', Nat.zero_mod] at hc; omega
  omega
/-- A semigroup is found again from its least elements. -/
theorem fromAp_apery {G : List Int} {N : Nat} (h : ApIn G N) : fromApB (aperyL G (N : Int)) = true ∧ fromApL (aperyL G (N : Int)) = G := by
  have hlen := aperyL_length h
  have ht := aperyL_tail h
  have hpos : Pos (apGens (aperyL G (N : Int))) := by
    intro x hx
    unfold apGens at hx
    rw [hlen] at hx
    rcases List.mem_cons.1 hx with rfl | hx
    · have := h.pos; omega
    · exact (ht x hx).1
  have hm := minL_sg h.sg hpos (apGens_sums h)
  have hB : fromApB (aperyL G (N : Int)) = true := by
    unfold fromApB apTail
    rw [hm, hlen, inB_mk (by have := h.pos; omega) (by have := h.le; omega), decide_eq_true rfl, Bool.true_and, Bool.and_true]
    exact List.all_eq_true.2 fun x hx => inB_mk (ht x hx).1 (ht x hx).2
  exact ⟨hB, by rw [fromApL_yes hB, hm]⟩
/-- What a program may ask: there is a semigroup whose least elements are the list. -/
theorem fromAp_iff {l G : List Int} : (fromApB l = true ∧ fromApL l = G) ↔ ApIn G l.length ∧ aperyL G (l.length : Int) = l := by
  constructor
  · rintro ⟨h, rfl⟩; exact fromApB_sg h
  · rintro ⟨h, e⟩
    have := fromAp_apery h
    rwa [e] at this
end Go.Proofs.Ytljfiiohiolbnaa
