/-
  THE NUMERATOR reads the same backwards exactly if the semigroup is symmetric; its series; the Euler list's entries. (Own work, no program.)
-/
import Derived.Test.YtlinlmmcgifloaaSgPr
import Derived.Test.YtlinlmmcgifloaaSgS
namespace Go.Proofs.Ytlinlmmcgifloaa
open Go

theorem chi_nat {G : List Int} (hs : isSgB G = true) (x : Nat) : chiZ G (x : Int) = bitI (sumB G x) := by unfold chiZ; rw [hasN_in hs]
theorem chi_low (G : List Int) : chiZ G (-1) = 0 := by unfold chiZ; rw [hasN_neg (by omega)]; rfl
theorem chi_cond {G : List Int} (hs : isSgB G = true) : chiZ G (condNat G : Int) = 1 := by rw [chi_nat hs, sg_from hs _ (Nat.le_refl _)]; rfl
theorem bit_two (a b : Bool) : bitI a + bitI b = 1 ↔ (a != b) = true := by cases a <;> cases b <;> simp [bitI]
theorem numL_get {G : List Int} (hs : isSgB G = true) (k : Nat) (hk : k < (numL G).length) : (numL G)[k] = chiZ G (k : Int) - chiZ G ((k : Int) - 1) := by
  rw [← numL_at hs k, List.getD_eq_getElem?_getD, List.getElem?_eq_getElem hk]; rfl
theorem numL_size {G : List Int} (hs : isSgB G = true) : (numL G).length = condNat G + 1 := by rw [numL_yes hs]; simp
theorem sym_iff {G : List Int} (hs : isSgB G = true) : symB G = true ↔ ∀ x : Nat, x < condNat G → chiZ G (x : Int) + chiZ G ((condNat G : Int) - 1 - (x : Int)) = 1 := by
  unfold symB mirB
  rw [hs, Bool.true_and, List.all_eq_true]
  have e : ∀ x : Nat, x < condNat G → (condNat G : Int) - 1 - (x : Int) = ((condNat G - 1 - x : Nat) : Int) := fun x hx => by omega
  constructor
  · intro h x hx
    have h1 := h x (List.mem_range.2 hx)
    rw [Bool.false_and, Bool.false_or] at h1
    rw [e x hx, chi_nat hs, chi_nat hs]
    exact (bit_two _ _).2 h1
  · intro h x hx
    have hx := List.mem_range.1 hx
    have h1 := h x hx
    rw [e x hx, chi_nat hs, chi_nat hs] at h1
    rw [Bool.false_and, Bool.false_or]
    exact (bit_two _ _).1 h1
theorem pal_sym {G : List Int} (hs : isSgB G = true) : palB (numL G) = symB G := by
  have hl := numL_size hs
  have h0 := chi_low G
  have hc := chi_cond hs
  have er : ∀ (k : Nat) (hk : k < (numL G).length), (numL G)[(numL G).length - 1 - k] = chiZ G ((condNat G : Int) - (k : Int)) - chiZ G ((condNat G : Int) - 1 - (k : Int)) := fun k hk => by
    rw [numL_get hs _ (by omega)]
    rw [show (((numL G).length - 1 - k : Nat) : Int) = (condNat G : Int) - (k : Int) by omega, show (condNat G : Int) - (k : Int) - 1 = (condNat G : Int) - 1 - (k : Int) by omega]
  cases hb : symB G
  · cases hp : palB (numL G)
    · rfl
    · exfalso
      unfold palB at hp
      rw [decide_eq_true_eq] at hp
      have hpal : ∀ (k : Nat) (hk : k < (numL G).length), (numL G)[k] = (numL G)[(numL G).length - 1 - k] := fun k hk => by
        have : (numL G).reverse[k]'(by simpa using hk) = (numL G)[k] := by simp only [hp]
        rw [List.getElem_reverse] at this
        exact this.symm
      have key : ∀ n : Nat, n ≤ condNat G → chiZ G ((n : Int) - 1) + chiZ G ((condNat G : Int) - (n : Int)) = 1 := by
        intro n
        induction n with
        | zero => intro _; rw [show ((0 : Nat) : Int) - 1 = -1 by omega, h0, show (condNat G : Int) - ((0 : Nat) : Int) = (condNat G : Int) by omega, hc]; rfl
        | succ n ih =>
          intro hn
          have h1 := ih (by omega)
          have h2 := hpal n (by omega)
          rw [numL_get hs n (by omega), er n (by omega)] at h2
          rw [show ((n + 1 : Nat) : Int) - 1 = (n : Int) by omega, show (condNat G : Int) - ((n + 1 : Nat) : Int) = (condNat G : Int) - 1 - (n : Int) by omega]
          omega
      have : symB G = true := (sym_iff hs).2 fun x hx => by
        have h1 := key (x + 1) (by omega)
        rw [show ((x + 1 : Nat) : Int) - 1 = (x : Int) by omega, show (condNat G : Int) - ((x + 1 : Nat) : Int) = (condNat G : Int) - 1 - (x : Int) by omega] at h1
        exact h1
      rw [this] at hb; cases hb
  · have hsy := (sym_iff hs).1 hb
    have key : ∀ n : Int, -1 ≤ n → n ≤ (condNat G : Int) → chiZ G n + chiZ G ((condNat G : Int) - 1 - n) = 1 := fun n h1 h2 => by
      by_cases e1 : n = -1
      · rw [e1, h0, show (condNat G : Int) - 1 - (-1) = (condNat G : Int) by omega, hc]; rfl
      · by_cases e2 : n = (condNat G : Int)
        · rw [e2, hc, show (condNat G : Int) - 1 - (condNat G : Int) = -1 by omega, h0]; rfl
        · obtain ⟨m, rfl⟩ := Int.eq_ofNat_of_zero_le (show 0 ≤ n by omega)
          exact hsy m (by omega)
    exact pal_true fun k hk => by
      rw [er k hk, numL_get hs k hk]
      have h1 := key (k : Int) (by omega) (by omega)
      have h2 := key ((k : Int) - 1) (by omega) (by omega)
      rw [show (condNat G : Int) - 1 - ((k : Int) - 1) = (condNat G : Int) - (k : Int) by omega] at h2
      omega
theorem series_num {G : List Int} (hs : isSgB G = true) : (seriesL (numL G) 60).length = 60 ∧ ∀ (i : Nat) (hi : i < (seriesL (numL G) 60).length), (seriesL (numL G) 60)[i] = bitI (hasN G (i : Int)) := by
  have e := seriesL_yes (L := numL G) (n := 60) (by decide)
  have e2 : seriesL (numL G) 60 = (List.range 60).map fun k => wsum ((numL G).take (k + 1)) := e
  refine ⟨by rw [e2]; simp, fun i hi => ?_⟩
  have : (seriesL (numL G) 60)[i] = ((List.range 60).map fun k => wsum ((numL G).take (k + 1)))[i]'(by rw [← e2]; exact hi) := by congr 1
  rw [this, List.getElem_map, List.getElem_range, wsum_num hs]
theorem eulL_get {G : List Int} (hs : isSgB G = true) (i : Nat) (hi : i < (eulL G).length) : (eulL G)[i] = eulN G (i : Int) := by
  have h9 := eulL_len G
  have e : eulL G = (List.range (eulS G G.length).toNat).map fun (n : Nat) => eulR G G (n : Int) := by unfold eulL; rw [if_pos hs]
  have : (eulL G)[i] = ((List.range (eulS G G.length).toNat).map fun (n : Nat) => eulR G G (n : Int))[i]'(by rw [← e]; exact hi) := by congr 1
  rw [this, List.getElem_map, List.getElem_range]
  unfold eulN
  rw [hs, inB_mk (by omega) (by omega)]; rfl
end Go.Proofs.Ytlinlmmcgifloaa
