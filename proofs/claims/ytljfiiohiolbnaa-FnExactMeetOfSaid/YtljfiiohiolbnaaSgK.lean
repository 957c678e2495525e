/-
  COORDINATES: no program. The coordinates of a semigroup, what clashes in a list, and the semigroup with given coordinates. (Own work.)
-/
import Derived.Test.YtljfiiohiolbnaaSgA
namespace Go.Proofs.Ytljfiiohiolbnaa
open Go

/-! ### The first of a search -/
theorem find_range {p : Nat → Bool} {n k : Nat} (hk : k < n) (hp : p k = true) (hb : ∀ j, j < k → p j = false) : (List.range n).find? p = some k := by
  rw [List.find?_range_eq_some]
  exact ⟨hp, List.mem_range.2 hk, fun j hj => by rw [hb j hj]; rfl⟩
theorem find_range_none {p : Nat → Bool} {n : Nat} (hb : ∀ j, j < n → p j = false) : (List.range n).find? p = none := by
  rw [List.find?_eq_none]
  intro x hx
  rw [hb x (List.mem_range.1 hx)]; simp

/-! ### Clashes -/
/-- The number with the index r - 1. -/
def at7 (L : List Int) (r : Nat) : Int := L.getD (r - 1) 0
def bad7 (L : List Int) (r : Nat) : Bool := decide (1 ≤ r) && !inB (at7 L r) 1 200
def clash7 (L : List Int) (a b : Nat) : Bool :=
  (decide (a + b < L.length + 1) && decide (at7 L a + at7 L b < at7 L (a + b))) || (decide (L.length + 1 < a + b) && decide (at7 L a + at7 L b + 1 < at7 L (a + b - (L.length + 1))))
def inRow7 (L : List Int) (a b : Nat) : Bool := decide (a ≤ b) && clash7 L a b
def row7 (L : List Int) (a : Nat) : Bool := decide (1 ≤ a) && (List.range (L.length + 1)).any (inRow7 L a)
/-- The first clash: the first number out of bounds, or the first two remainders. -/
def clashR (L : List Int) : Option (Nat × Nat) :=
  match (List.range (L.length + 1)).find? (bad7 L) with
  | some r => some (r, 0)
  | none => match (List.range (L.length + 1)).find? (row7 L) with
    | none => none
    | some a => ((List.range (L.length + 1)).find? (inRow7 L a)).map fun b => (a, b)
def clashA (L : List Int) : Int := match clashR L with | some (a, _) => (a : Int) | none => 0
def clashB (L : List Int) : Int := match clashR L with | some (_, b) => (b : Int) | none => 0
def clashQ (L : List Int) : Bool := (clashR L).isSome

theorem clashR_bad {L : List Int} {r : Nat} (hr : r < L.length + 1) (hb : bad7 L r = true) (hlo : ∀ j, j < r → bad7 L j = false) : clashR L = some (r, 0) := by
  unfold clashR; rw [find_range hr hb hlo]
theorem row7_false {L : List Int} {a : Nat} (h : ∀ b, b < L.length + 1 → a ≤ b → clash7 L a b = false) : row7 L a = false := by
  unfold row7
  by_cases h1 : 1 ≤ a
  · rw [decide_eq_true h1, Bool.true_and, List.any_eq_false]
    intro b hb
    unfold inRow7
    by_cases hab : a ≤ b
    · rw [h b (List.mem_range.1 hb) hab]; simp
    · rw [decide_eq_false hab]; simp
  · rw [decide_eq_false h1]; rfl
theorem clashR_pair {L : List Int} {a b : Nat} (ha : 1 ≤ a) (hab : a ≤ b) (hb : b < L.length + 1) (hc : clash7 L a b = true) (hno : ∀ r, r < L.length + 1 → bad7 L r = false)
    (hlo : ∀ x y, 1 ≤ x → x < a → x ≤ y → y < L.length + 1 → clash7 L x y = false) (hrow : ∀ y, a ≤ y → y < b → clash7 L a y = false) : clashR L = some (a, b) := by
  unfold clashR
  rw [find_range_none hno]
  have hr : row7 L a = true := by
    unfold row7
    rw [decide_eq_true ha, Bool.true_and, List.any_eq_true]
    exact ⟨b, List.mem_range.2 hb, by unfold inRow7; rw [decide_eq_true hab, hc]; rfl⟩
  rw [find_range (show a < L.length + 1 by omega) hr (fun j hj => by
    by_cases h1 : 1 ≤ j
    · exact row7_false fun y hy hjy => hlo j y h1 hj hjy hy
    · unfold row7; rw [decide_eq_false h1]; rfl)]
  show Option.map _ _ = _
  rw [find_range hb (by unfold inRow7; rw [decide_eq_true hab, hc]; rfl) (fun j hj => by
    unfold inRow7
    by_cases h1 : a ≤ j
    · rw [hrow j h1 hj]; simp
    · rw [decide_eq_false h1]; rfl)]
  rfl
theorem clashR_none {L : List Int} (hno : ∀ r, r < L.length + 1 → bad7 L r = false) (hc : ∀ x y, 1 ≤ x → x ≤ y → y < L.length + 1 → clash7 L x y = false) : clashR L = none := by
  unfold clashR
  rw [find_range_none hno]
  have h : (List.range (L.length + 1)).find? (row7 L) = none := find_range_none fun j hj => by
    by_cases h1 : 1 ≤ j
    · exact row7_false fun y hy hjy => hc j y h1 hjy hy
    · unfold row7; rw [decide_eq_false h1]; rfl
  rw [h]
/-- Nothing clashes: the numbers are within their bounds. -/
theorem bad7_none {L : List Int} (h : clashR L = none) {r : Nat} (h1 : 1 ≤ r) (hr : r < L.length + 1) : 1 ≤ at7 L r ∧ at7 L r ≤ 200 := by
  unfold clashR at h
  cases hf : (List.range (L.length + 1)).find? (bad7 L) with
  | some x => rw [hf] at h; cases h
  | none =>
    have := List.find?_eq_none.1 hf r (List.mem_range.2 hr)
    unfold bad7 at this
    rw [decide_eq_true h1, Bool.true_and] at this
    simp at this
    exact inB_iff.1 this
theorem clash_le {L : List Int} : 0 ≤ clashA L ∧ clashA L ≤ L.length ∧ 0 ≤ clashB L ∧ clashB L ≤ L.length := by
  unfold clashA clashB
  cases h : clashR L with
  | none => exact ⟨Int.le_refl _, Int.natCast_nonneg _, Int.le_refl _, Int.natCast_nonneg _⟩
  | some p =>
    obtain ⟨a, b⟩ := p
    have : a ≤ L.length ∧ b ≤ L.length := by
      unfold clashR at h
      cases hf : (List.range (L.length + 1)).find? (bad7 L) with
      | some x =>
        rw [hf] at h
        have := List.mem_range.1 (List.mem_of_find?_eq_some hf)
        injection h with h
        injection h with h1 h2
        omega
      | none =>
        rw [hf] at h
        cases hg : (List.range (L.length + 1)).find? (row7 L) with
        | none => simp only [hg] at h; cases h
        | some x =>
          have hx := List.mem_range.1 (List.mem_of_find?_eq_some hg)
          simp only [hg] at h
          cases hy : (List.range (L.length + 1)).find? (inRow7 L x) with
          | none => rw [hy] at h; cases h
          | some y =>
            have hy' := List.mem_range.1 (List.mem_of_find?_eq_some hy)
            rw [hy] at h
            injection h with h
            injection h with h1 h2
            omega
    show 0 ≤ (a : Int) ∧ (a : Int) ≤ L.length ∧ 0 ≤ (b : Int) ∧ (b : Int) ≤ L.length
    omega

/-! ### Coordinates -/
noncomputable def coordL (G : List Int) : List Int := ((aperyL G (multN G)).tail).map fun x => x / multN G

theorem sum_least {G : List Int} {m : Nat} (h : ∀ g : Nat, (g : Int) ∈ G → m ≤ g) {x : Nat} (hx : IsSum G x) (h1 : 1 ≤ x) : m ≤ x := by
  cases hx with
  | zero => omega
  | add hg _ => have := h _ hg; omega
/-- The multiplicity is the least positive element. -/
theorem mult_of {G : List Int} (h : isSgB G = true) : ∃ m : Nat, multN G = (m : Int) ∧ ApIn G m ∧ ∀ x, 1 ≤ x → sumB G x = true → m ≤ x := by
  have hs := isSgB_iff.1 h
  have hp := hs.pos
  have hG0 : G.headD 0 = G[0] := by
    cases G with
    | nil => simp at hp
    | cons g G => rfl
  have hb := hs.bounds G[0] (List.getElem_mem _)
  have hm : multN G = ((G[0]).toNat : Int) := by unfold multN; rw [if_pos h, hG0]; omega
  have hin : (((G[0]).toNat : Nat) : Int) ∈ G := by rw [show (((G[0]).toNat : Nat) : Int) = G[0] by omega]; exact List.getElem_mem _
  refine ⟨(G[0]).toNat, hm, ⟨h, IsSum.gen hin, by omega, by omega⟩, fun x h1 hx => sum_least (fun g hg => ?_) (sumB_iff.1 hx) h1⟩
  obtain ⟨i, hi, e⟩ := List.getElem_of_mem hg
  rcases Nat.eq_zero_or_pos i with rfl | hpos
  · omega
  · have := hs.Asc 0 i hi hpos; omega
theorem mult_unique {G : List Int} {n : Nat} (h : ApIn G n) (hl : ∀ x, 1 ≤ x → sumB G x = true → n ≤ x) : multN G = (n : Int) := by
  obtain ⟨m, h1, h2, h3⟩ := mult_of h.sg
  have a1 := h3 n h.pos (sumB_iff.2 h.mem)
  have a2 := hl m h2.pos (sumB_iff.2 h2.mem)
  rw [h1]; omega

theorem coordL_no {G : List Int} (h : isSgB G = false) : coordL G = [] := by
  unfold coordL; rw [aperyL_no (by rw [hasN_not h]; rfl)]; rfl
theorem tail_get {α : Type} (l : List α) (i : Nat) : l.tail[i]? = l[i + 1]? := by cases l <;> simp
theorem coordL_at {G : List Int} {m : Nat} (hm : multN G = (m : Int)) (hA : ApIn G m) : (coordL G).length = m - 1 ∧ ∀ r, 1 ≤ r → r < m → at7 (coordL G) r = ((apOf (sumB G) m r / m : Nat) : Int) := by
  unfold coordL
  rw [hm, aperyL_in hA]
  refine ⟨by rw [List.length_map, List.length_tail, apL_length], fun r h1 hr => ?_⟩
  unfold at7
  have e : (List.map (fun x => x / (m : Int)) (apL (sumB G) m).tail)[r - 1]? = some ((apOf (sumB G) m r / m : Nat) : Int) := by
    rw [List.getElem?_map, tail_get, show r - 1 + 1 = r by omega, List.getElem?_eq_getElem (by rw [apL_length]; exact hr), apL_get]
    rfl
  rw [List.getD_eq_getElem?_getD, e]; rfl
theorem ap_split {G : List Int} {m : Nat} (hA : ApIn G m) {r : Nat} (hr : r < m) : apOf (sumB G) m r = apOf (sumB G) m r / m * m + r := by
  have h := Nat.div_add_mod (apOf (sumB G) m r) m
  rw [(apOf_least hA.far hA.pos hr).cls, Nat.mul_comm] at h
  exact h.symm
/-- What the coordinates of a semigroup keep. -/
theorem coord_sound {G : List Int} (h : isSgB G = true) : clashR (coordL G) = none ∧ (coordL G).length < 60 := by
  obtain ⟨m, hm, hA, hl⟩ := mult_of h
  obtain ⟨hlen, hat⟩ := coordL_at hm hA
  have hp := hA.pos
  have h60 := hA.le
  have hk : ∀ r, 1 ≤ r → r < m → 1 ≤ apOf (sumB G) m r / m ∧ apOf (sumB G) m r / m ≤ 200 := by
    intro r h1 hr
    have hs := ap_split hA hr
    have hle := apOf_least hA.far hp hr
    have hlt := apOf_lt hA.far hp hr
    have hge := hl (apOf (sumB G) m r) (by
      rcases Nat.eq_zero_or_pos (apOf (sumB G) m r) with e | e
      · have := hle.cls; rw [e] at this; simp at this; omega
      · exact e) hle.has
    constructor
    · rcases Nat.eq_zero_or_pos (apOf (sumB G) m r / m) with e | e
      · rw [e] at hs; omega
      · exact e
    · rcases Nat.lt_or_ge (apOf (sumB G) m r / m) 201 with e | e
      · omega
      · have h2 := Nat.mul_le_mul_right m e
        omega
  refine ⟨clashR_none (fun r hr => ?_) (fun a b h1 hab hb => ?_), by omega⟩
  · unfold bad7
    by_cases h1 : 1 ≤ r
    · obtain ⟨k1, k2⟩ := hk r h1 (by omega)
      rw [hat r h1 (by omega), inB_iff.2 ⟨by omega, by omega⟩]; simp
    · rw [decide_eq_false h1]; rfl
  · rw [hlen] at hb
    have hsum : ∀ c, c < m → (a + b) % m = c → apOf (sumB G) m c ≤ apOf (sumB G) m a + apOf (sumB G) m b := by
      intro c hc e
      have la := apOf_least hA.far hp (show a < m by omega)
      have lb := apOf_least hA.far hp (show b < m by omega)
      refine (apOf_least hA.far hp hc).min _ ?_ (sumB_iff.2 ((sumB_iff.1 la.has).plus (sumB_iff.1 lb.has)))
      rw [Nat.add_mod, la.cls, lb.cls, e]
    have sa := ap_split hA (show a < m by omega)
    have sb := ap_split hA (show b < m by omega)
    unfold clash7
    rw [hlen, show m - 1 + 1 = m by omega, hat a h1 (by omega), hat b (by omega) (by omega)]
    rcases Nat.lt_trichotomy (a + b) m with hlt | he | hgt
    · have h2 := hsum (a + b) hlt (Nat.mod_eq_of_lt hlt)
      have sc := ap_split hA hlt
      have h3 : apOf (sumB G) m (a + b) / m * m ≤ (apOf (sumB G) m a / m + apOf (sumB G) m b / m) * m := by rw [Nat.add_mul]; omega
      have h4 := Nat.le_of_mul_le_mul_right h3 hp
      rw [hat (a + b) (by omega) hlt, decide_eq_false (show ¬ m < a + b by omega), Bool.false_and, Bool.or_false, decide_eq_false (p := (_ : Int) < _) (by omega), Bool.and_false]
    · rw [decide_eq_false (show ¬ a + b < m by omega), decide_eq_false (show ¬ m < a + b by omega)]; rfl
    · have h2 := hsum (a + b - m) (by omega) (by rw [Nat.mod_eq_sub_mod (by omega), Nat.mod_eq_of_lt (by omega)])
      have sc := ap_split hA (show a + b - m < m by omega)
      have h3 : apOf (sumB G) m (a + b - m) / m * m ≤ (apOf (sumB G) m a / m + apOf (sumB G) m b / m + 1) * m := by rw [Nat.add_mul, Nat.add_mul]; omega
      have h4 := Nat.le_of_mul_le_mul_right h3 hp
      rw [hat (a + b - m) (by omega) (by omega), decide_eq_false (show ¬ a + b < m by omega), Bool.false_and, Bool.false_or, decide_eq_false (p := (_ : Int) < _) (by omega), Bool.and_false]

/-! ### The semigroup with given coordinates -/
def apList (L : List Int) : List Int := (List.range (L.length + 1)).map fun r => if r = 0 then 0 else at7 L r * ((L.length : Int) + 1) + (r : Int)
theorem apList_len (L : List Int) : (apList L).length = L.length + 1 := by simp [apList]
theorem apList_at {L : List Int} {r : Nat} (hr : r < L.length + 1) : (apList L)[r]? = some (if r = 0 then 0 else at7 L r * ((L.length : Int) + 1) + (r : Int)) := by
  unfold apList; rw [List.getElem?_map, List.getElem?_range hr]; rfl
noncomputable def fromCoB (L : List Int) : Bool := !clashQ L && decide (L.length < 60) && fromApB (apList L)
noncomputable def fromCoL (L : List Int) : List Int := if fromCoB L then fromApL (apList L) else []
theorem fromCoL_yes {L : List Int} (h : fromCoB L = true) : fromCoL L = fromApL (apList L) := by unfold fromCoL; rw [if_pos h]
theorem fromCoL_no {L : List Int} (h : fromCoB L = false) : fromCoL L = [] := by unfold fromCoL; rw [h]; rfl
theorem fromCo_parts {L : List Int} (h : fromCoB L = true) : clashR L = none ∧ L.length < 60 ∧ fromApB (apList L) = true := by
  unfold fromCoB clashQ at h
  rw [Bool.and_eq_true, Bool.and_eq_true, decide_eq_true_eq] at h
  obtain ⟨⟨h1, h2⟩, h3⟩ := h
  refine ⟨?_, h2, h3⟩
  cases hc : clashR L with
  | none => rfl
  | some p => rw [hc] at h1; cases h1
theorem fromCo_mk {L : List Int} (h1 : clashR L = none) (h2 : L.length < 60) (h3 : fromApB (apList L) = true) : fromCoB L = true := by
  unfold fromCoB clashQ; rw [h1, decide_eq_true h2, h3]; rfl
theorem fromCo_iff {L G : List Int} : (fromCoB L = true ∧ fromCoL L = G) ↔ isSgB G = true ∧ coordL G = L := by
  constructor
  · rintro ⟨h, rfl⟩
    obtain ⟨hc, hlen, ha⟩ := fromCo_parts h
    rw [fromCoL_yes h]
    obtain ⟨hA, hap⟩ := fromApB_sg ha
    rw [apList_len] at hA hap
    generalize fromApL (apList L) = G at hA hap
    refine ⟨hA.sg, ?_⟩
    have hp := hA.pos
    rw [aperyL_in hA] at hap
    have hv : ∀ r, 1 ≤ r → r < L.length + 1 → (apOf (sumB G) (L.length + 1) r : Int) = at7 L r * ((L.length : Int) + 1) + (r : Int) := by
      intro r h1 hr
      have e := apList_at hr
      rw [← hap, List.getElem?_eq_getElem (by rw [apL_length]; exact hr), apL_get, if_neg (by omega)] at e
      injection e
    have hk : ∀ r, 1 ≤ r → r < L.length + 1 → apOf (sumB G) (L.length + 1) r / (L.length + 1) = (at7 L r).toNat := by
      intro r h1 hr
      obtain ⟨b1, b2⟩ := bad7_none hc h1 hr
      have e := hv r h1 hr
      obtain ⟨q, hq⟩ : ∃ q : Nat, at7 L r = (q : Int) := ⟨(at7 L r).toNat, by omega⟩
      rw [hq] at e ⊢
      have e2 : apOf (sumB G) (L.length + 1) r = q * (L.length + 1) + r := by
        have : ((apOf (sumB G) (L.length + 1) r : Nat) : Int) = ((q * (L.length + 1) + r : Nat) : Int) := by
          rw [e, Int.natCast_add, Int.natCast_mul]; rfl
        omega
      rw [e2, Nat.mul_comm, Nat.mul_add_div (by omega), Nat.div_eq_of_lt hr]
      simp
    have hm : multN G = ((L.length + 1 : Nat) : Int) := mult_unique hA fun x h1 hx => by
      have hle := (has_iff hA.far hp hA.step x).1 hx
      have hr := Nat.mod_lt x (show 0 < L.length + 1 by omega)
      rcases Nat.eq_zero_or_pos (x % (L.length + 1)) with e | e
      · exact Nat.le_of_dvd h1 (Nat.dvd_of_mod_eq_zero e)
      · obtain ⟨b1, b2⟩ := bad7_none hc e hr
        have hs := ap_split hA hr
        rw [hk _ e hr] at hs
        have h2 := Nat.mul_le_mul_right (L.length + 1) (show 1 ≤ (at7 L (x % (L.length + 1))).toNat by omega)
        omega
    obtain ⟨hl1, hat⟩ := coordL_at hm hA
    apply List.ext_getElem
    · rw [hl1]; omega
    · intro i h1 h2
      have e1 := hat (i + 1) (by omega) (by omega)
      rw [hk _ (by omega) (by omega)] at e1
      obtain ⟨b1, b2⟩ := bad7_none hc (r := i + 1) (by omega) (by omega)
      unfold at7 at e1 b1 b2
      rw [show i + 1 - 1 = i by omega, List.getD_eq_getElem?_getD, List.getD_eq_getElem?_getD, List.getElem?_eq_getElem h1, List.getElem?_eq_getElem h2] at e1
      rw [show i + 1 - 1 = i by omega, List.getD_eq_getElem?_getD, List.getElem?_eq_getElem h2] at b1
      simp only [Option.getD_some] at e1 b1
      omega
  · rintro ⟨h, rfl⟩
    obtain ⟨hc, hlen⟩ := coord_sound h
    obtain ⟨m, hm, hA, hl⟩ := mult_of h
    obtain ⟨hl1, hat⟩ := coordL_at hm hA
    have hp := hA.pos
    have hap : apList (coordL G) = aperyL G (m : Int) := by
      rw [aperyL_in hA]
      apply List.ext_getElem?
      intro r
      rcases Nat.lt_or_ge r m with hr | hr
      · rw [apList_at (by omega), List.getElem?_eq_getElem (by rw [apL_length]; exact hr), apL_get]
        congr 1
        by_cases e : r = 0
        · rw [if_pos e, e, apOf_zero (sumB_zero G)]; rfl
        · rw [if_neg e, hat r (by omega) hr, hl1]
          have hs := ap_split hA hr
          rw [show (((m - 1 : Nat) : Int) + 1) = (m : Int) by omega, ← Int.natCast_mul, ← Int.natCast_add, ← hs]
      · rw [List.getElem?_eq_none (by rw [apList_len]; omega), List.getElem?_eq_none (by rw [apL_length]; omega)]
    obtain ⟨h1, h2⟩ := fromAp_apery hA
    rw [← hap] at h1 h2
    have hb := fromCo_mk hc hlen h1
    exact ⟨hb, by rw [fromCoL_yes hb, h2]⟩
theorem fromCoL_len (L : List Int) : (fromCoL L).length ≤ 12 := by
  cases h : fromCoB L
  · rw [fromCoL_no h]; exact Nat.zero_le _
  · exact (isSgB_iff.1 (fromCo_iff.1 ⟨h, rfl⟩).1).len
theorem coordL_len_le (G : List Int) : (coordL G).length ≤ 60 := by
  cases h : isSgB G
  · rw [coordL_no h]; exact Nat.zero_le _
  · exact Nat.le_of_lt (coord_sound h).2
/-- The sum of the coordinates is the number of gaps. -/
theorem coord_total {G : List Int} (h : isSgB G = true) : (coordL G).sum = genusN G := by
  obtain ⟨m, hm, hA, -⟩ := mult_of h
  have hne := apL_ne hA.pos (p := sumB G)
  have hg := genusA_in hA
  rw [← hg]
  unfold genusA coordL
  rw [hm, aperyL_in hA, if_neg hne]
  have h0 : (apL (sumB G) m)[0]? = some 0 := by rw [List.getElem?_eq_getElem (by rw [apL_length]; exact hA.pos), apL_get, apOf_zero (sumB_zero G)]; rfl
  cases hl : apL (sumB G) m with
  | nil => exact absurd hl hne
  | cons x l =>
    rw [hl] at h0
    simp at h0
    subst h0
    simp
end Go.Proofs.Ytljfiiohiolbnaa
