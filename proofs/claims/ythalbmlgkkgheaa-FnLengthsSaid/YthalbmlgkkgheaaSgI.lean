/-
  WHAT THE LAW FnLengths SAYS OF THE MODELS: no program. (Own work.)
-/
import Derived.Test.YthalbmlgkkgheaaSgR
import Derived.Test.YthalbmlgkkgheaaRow7
namespace Go.Proofs.Ythalbmlgkkgheaa
open Go

noncomputable def gch (G : List Int) (k : Nat) : Int := (diffsK G k).foldl gcdOf 0
theorem gch_succ {G : List Int} {k : Nat} (hk : k + 1 < G.length) : gch G (k + 1) = gcdOf (gch G k) (G[k + 1] - G[k]) := by
  unfold gch; rw [diffsK_succ hk, List.foldl_append]; rfl
theorem gch_bnd (G : List Int) (k : Nat) : 0 ≤ gch G k ∧ gch G k ≤ 1000000 := by
  suffices h : ∀ (L : List Int) (a : Int), 0 ≤ a ∧ a ≤ 1000000 → 0 ≤ L.foldl gcdOf a ∧ L.foldl gcdOf a ≤ 1000000 from h _ 0 (by omega)
  intro L
  induction L with
  | nil => intro a h; exact h
  | cons x r ih => intro a _; exact ih _ (gcdOf_bounds a x)
theorem gcdOf_dvd2 {a b : Int} (ha : small a = true) (hb : small b = true) : gcdOf a b ∣ a ∧ gcdOf a b ∣ b := by
  rw [gcdOf_in ha hb]
  exact ⟨Int.dvd_natAbs.1 (Int.natCast_dvd_natCast.2 (Nat.gcd_dvd_left _ _)), Int.dvd_natAbs.1 (Int.natCast_dvd_natCast.2 (Nat.gcd_dvd_right _ _))⟩
theorem dvd_gcdOf {a b e : Int} (ha : e ∣ a) (hb : e ∣ b) : e ∣ gcdOf a b := by
  unfold gcdOf
  split
  · exact Int.natAbs_dvd.1 (Int.natCast_dvd_natCast.2 (Nat.dvd_gcd (Int.natAbs_dvd_natAbs.2 ha) (Int.natAbs_dvd_natAbs.2 hb)))
  · exact Int.dvd_zero e
theorem dvd_gcdL {G : List Int} {e : Int} (h : ∀ g ∈ G, e ∣ g) : e ∣ gcdL G := by
  unfold gcdL
  suffices hs : ∀ (L : List Int) (a : Int), e ∣ a → (∀ g ∈ L, e ∣ g) → e ∣ L.foldl gcdOf a from hs G 0 (Int.dvd_zero e) h
  intro L
  induction L with
  | nil => intro a h _; exact h
  | cons x r ih => intro a h1 h2; exact ih _ (dvd_gcdOf h1 (h2 x (by simp))) fun g hg => h2 g (by simp [hg])
theorem gch_dvd {G : List Int} (hG : ∀ g ∈ G, 1 ≤ g ∧ g ≤ 60) : ∀ (k : Nat), k < G.length → ∀ i, i ≤ k → ∀ (hi : i < G.length) (h0 : 0 < G.length), gch G k ∣ G[i] - G[0]
  | 0, _, i, hik, hi, h0 => by
    obtain rfl : i = 0 := by omega
    rw [Int.sub_self]; exact Int.dvd_zero _
  | k + 1, hk, i, hik, hi, h0 => by
    have hb := gch_bnd G k
    have h1 := hG G[k + 1] (List.getElem_mem hk)
    have h2 := hG G[k] (List.getElem_mem (by omega))
    have hd := gcdOf_dvd2 (a := gch G k) (b := G[k + 1] - G[k]) (small_iff.2 ⟨by omega, by omega⟩) (small_iff.2 ⟨by omega, by omega⟩)
    rw [gch_succ hk]
    by_cases h : i ≤ k
    · exact Int.dvd_trans hd.1 (gch_dvd hG k (by omega) i h hi h0)
    · obtain rfl : i = k + 1 := by omega
      have h3 := Int.dvd_trans hd.1 (gch_dvd hG k (by omega) k (Nat.le_refl _) (by omega) h0)
      have := Int.dvd_add hd.2 h3
      rw [show G[k + 1] - G[k] + (G[k] - G[0]) = G[k + 1] - G[0] by omega] at this
      exact this
theorem dot_mod {D g0 : Int} : ∀ (L G : List Int), L.length = G.length → (∀ g ∈ G, D ∣ g - g0) → D ∣ dotL L G - L.sum * g0
  | [], [], _, _ => by simp [dotL]
  | x :: L, g :: G, hl, h => by
    have ih := dot_mod L G (by simpa using hl) fun y hy => h y (by simp [hy])
    have h1 : D ∣ x * (g - g0) := Int.dvd_trans (h g (by simp)) (Int.dvd_mul_left _ _)
    rw [dotL_cons, List.sum_cons]
    have := Int.dvd_add h1 ih
    rw [show x * (g - g0) + (dotL L G - L.sum * g0) = x * g + dotL L G - (x + L.sum) * g0 by rw [Int.mul_sub, Int.add_mul]; omega] at this
    exact this
  | [], _ :: _, h, _ => by simp at h
  | _ :: _, [], h, _ => by simp at h
theorem delta_law {G : List Int} {n x : Int} (h : x ∈ deltaL G n) : gch G (G.length - 1) ≠ 0 ∧ x.tmod (gch G (G.length - 1)) = 0 := by
  have hx := deltaL_bnd h
  obtain ⟨i, hi, hxe⟩ := mem_deltaL.1 h
  obtain ⟨L, hL, hLs⟩ := mem_lenL.1 (List.getElem_mem hi)
  obtain ⟨M, hM, hMs⟩ := mem_lenL.1 (List.getElem_mem (show i < (lenL G n).length by omega))
  have hs := (factL_sg hL).1
  have hS := isSgB_iff.1 hs
  have h0 : 0 < G.length := (okG_iff.1 hS.ok).2.1
  have hbd := hS.bounds
  obtain ⟨D, hD⟩ : ∃ D, D = gch G (G.length - 1) := ⟨_, rfl⟩
  rw [← hD]
  have hDb := gch_bnd G (G.length - 1)
  rw [← hD] at hDb
  have hall : ∀ g ∈ G, D ∣ g - G[0] := fun g hg => by
    obtain ⟨j, hj, rfl⟩ := List.getElem_of_mem hg
    rw [hD]; exact gch_dvd hbd _ (by omega) j (by omega) hj h0
  have h1 := dot_mod L G (fact_dot hL).2 hall
  have h2 := dot_mod M G (fact_dot hM).2 hall
  rw [(fact_dot hL).1, hLs] at h1
  rw [(fact_dot hM).1, hMs] at h2
  have h3 : D ∣ x * G[0] := by
    have := Int.dvd_sub h2 h1
    rw [show n - (lenL G n)[i] * G[0] - (n - (lenL G n)[i + 1] * G[0]) = x * G[0] by rw [hxe, Int.sub_mul]; omega] at this
    exact this
  have hg0 := hbd G[0] (List.getElem_mem h0)
  have hcop : Nat.Coprime D.natAbs G[0].natAbs := by
    have he : ((Nat.gcd D.natAbs G[0].natAbs : Nat) : Int) ∣ gcdL G := dvd_gcdL fun g hg => by
      have e1 : ((Nat.gcd D.natAbs G[0].natAbs : Nat) : Int) ∣ D := Int.dvd_natAbs.1 (Int.natCast_dvd_natCast.2 (Nat.gcd_dvd_left _ _))
      have e2 : ((Nat.gcd D.natAbs G[0].natAbs : Nat) : Int) ∣ G[0] := Int.dvd_natAbs.1 (Int.natCast_dvd_natCast.2 (Nat.gcd_dvd_right _ _))
      have := Int.dvd_add (Int.dvd_trans e1 (hall g hg)) e2
      rw [show g - G[0] + G[0] = g by omega] at this
      exact this
    rw [hS.gcd] at he
    have : Nat.gcd D.natAbs G[0].natAbs ∣ 1 := Int.natCast_dvd_natCast.1 he
    exact Nat.dvd_one.1 this
  have h4 : D ∣ x := by
    have h5 : D.natAbs ∣ x.natAbs * G[0].natAbs := by rw [← Int.natAbs_mul]; exact Int.natAbs_dvd_natAbs.2 h3
    exact Int.natAbs_dvd_natAbs.1 (hcop.dvd_of_dvd_mul_right h5)
  constructor
  · intro e; rw [e] at h4; have := Int.zero_dvd.1 h4; omega
  · exact Int.tmod_eq_zero_of_dvd h4
theorem dot_le {lo hi : Int} : ∀ (L G : List Int), L.length = G.length → (∀ x ∈ L, 0 ≤ x) → (∀ g ∈ G, lo ≤ g ∧ g ≤ hi) → L.sum * lo ≤ dotL L G ∧ dotL L G ≤ L.sum * hi
  | [], [], _, _, _ => by simp [dotL]
  | x :: L, g :: G, hl, hx, hg => by
    have ih := dot_le L G (by simpa using hl) (fun y hy => hx y (by simp [hy])) fun y hy => hg y (by simp [hy])
    have h1 := hx x (by simp)
    have h2 := hg g (by simp)
    have h3 := Int.mul_le_mul_of_nonneg_left h2.1 h1
    have h4 := Int.mul_le_mul_of_nonneg_left h2.2 h1
    rw [dotL_cons, List.sum_cons, Int.add_mul, Int.add_mul]
    omega
  | [], _ :: _, h, _, _ => by simp at h
  | _ :: _, [], h, _, _ => by simp at h
/-- Division by a common divisor keeps the order of the two products. -/
theorem low_le {a b p q : Nat} (ha : a ≤ 1200) (hb : b ≤ 1200) (hp : p ≤ 60) (hq : q ≤ 60) (h : a * q ≤ b * p) (ha1 : 1 ≤ a) (hp1 : 1 ≤ p) : lowA a b * lowB p q ≤ lowB a b * lowA p q := by
  obtain ⟨d, hd, hd1⟩ := gcd_nat a b
  obtain ⟨e, he, he1⟩ := gcd_nat p q
  have hdz : d ≠ 0 := fun z => gcd_pos ha1 (by omega) (by omega : b ≤ 1000000) (by rw [hd, z])
  have hez : e ≠ 0 := fun z => gcd_pos hp1 (by omega) (by omega : q ≤ 1000000) (by rw [he, z])
  have sa : ∀ m : Nat, m ≤ 1000000 → small (m : Int) = true := fun m hm => small_iff.2 ⟨by omega, by omega⟩
  have d1 := gcdOf_dvd2 (sa a (by omega)) (sa b (by omega))
  have d2 := gcdOf_dvd2 (sa p (by omega)) (sa q (by omega))
  rw [hd] at d1
  rw [he] at d2
  obtain ⟨a', rfl⟩ := Int.natCast_dvd_natCast.1 d1.1
  obtain ⟨b', rfl⟩ := Int.natCast_dvd_natCast.1 d1.2
  obtain ⟨p', rfl⟩ := Int.natCast_dvd_natCast.1 d2.1
  obtain ⟨q', rfl⟩ := Int.natCast_dvd_natCast.1 d2.2
  obtain ⟨l1, l2⟩ := low_yes hd hdz
  obtain ⟨l3, l4⟩ := low_yes he hez
  rw [l1, l2, l3, l4, Nat.mul_div_cancel_left _ (by omega), Nat.mul_div_cancel_left _ (by omega), Nat.mul_div_cancel_left _ (by omega), Nat.mul_div_cancel_left _ (by omega)]
  have h2 : d * e * (a' * q') ≤ d * e * (b' * p') := by
    calc d * e * (a' * q') = d * a' * (e * q') := by ac_rfl
      _ ≤ d * b' * (e * p') := h
      _ = d * e * (b' * p') := by ac_rfl
  have h3 : a' * q' ≤ b' * p' := Nat.le_of_mul_le_mul_left h2 (Nat.mul_pos (by omega) (by omega))
  exact_mod_cast h3
theorem low_bnd (a b : Nat) (ha : a ≤ 1200) (hb : b ≤ 1200) : 0 ≤ lowA a b ∧ lowA a b ≤ 1200 ∧ 0 ≤ lowB a b ∧ lowB a b ≤ 1200 := by
  obtain ⟨d, hd, hd1⟩ := gcd_nat a b
  by_cases hz : d = 0
  · subst hz; obtain ⟨l1, l2⟩ := low_no hd; rw [l1, l2]; omega
  · obtain ⟨l1, l2⟩ := low_yes hd hz
    rw [l1, l2]
    have := Nat.div_le_self a d
    have := Nat.div_le_self b d
    generalize a / d = x at *
    generalize b / d = y at *
    omega
theorem ela_bnd (G : List Int) (n : Int) : 0 ≤ elaA G n ∧ elaA G n ≤ 1200 ∧ 0 ≤ elaB G n ∧ elaB G n ≤ 1200 := by
  by_cases h : (lenL G n).length = 0
  · rw [(ela_none h).1, (ela_none h).2]; omega
  · obtain ⟨p, x, y, -, -, -, -, hx, hy, hA, hB, -⟩ := ela_ends h
    rw [hA, hB]; exact low_bnd x y hx hy
theorem great_bnd (G : List Int) : 0 ≤ greatA G ∧ greatA G ≤ 1200 ∧ 0 ≤ greatB G ∧ greatB G ≤ 1200 := by
  cases hs : isSgB G
  · rw [(great_no hs).1, (great_no hs).2]; omega
  · obtain ⟨p, x, y, -, -, -, -, -, hx, -, hy, hA, hB⟩ := great_ends hs
    rw [hA, hB]; exact low_bnd x y (by omega) (by omega)
theorem ela_law {G : List Int} {n : Int} (h : (lenL G n).length ≠ 0) (hn : n ≠ 0) : elaA G n * greatB G ≤ elaB G n * greatA G := by
  obtain ⟨p, x, y, hp1, hp2, hgp, hg0, hx, hy, hA, hB, hpos, -⟩ := ela_ends h
  have hlt : p < (lenL G n).length := by omega
  rw [List.getElem?_eq_getElem hlt] at hgp
  rw [List.getElem?_eq_getElem (show 0 < (lenL G n).length by omega)] at hg0
  obtain ⟨L, hL, hLs⟩ := mem_lenL.1 (List.getElem_mem hlt)
  obtain ⟨M, hM, hMs⟩ := mem_lenL.1 (List.getElem_mem (show 0 < (lenL G n).length by omega))
  have hs := (factL_sg hL).1
  obtain ⟨r, a, b, hr1, hr2, hgr, hgz, ha1, ha60, hb1, hb60, hGA, hGB⟩ := great_ends hs
  have hS := isSgB_iff.1 hs
  have hlt2 : r < G.length := by omega
  rw [List.getElem?_eq_getElem hlt2] at hgr
  rw [List.getElem?_eq_getElem (show 0 < G.length by omega)] at hgz
  injection hgr with hgr
  injection hgz with hgz
  injection hgp with hgp
  injection hg0 with hg0
  have hin : ∀ g ∈ G, (b : Int) ≤ g ∧ g ≤ (a : Int) := fun g hg => by
    obtain ⟨i, hi, rfl⟩ := List.getElem_of_mem hg
    have hA := hS.Asc
    constructor
    · rw [← hgz]
      rcases Nat.eq_zero_or_pos i with e | e
      · subst e; exact Int.le_refl _
      · exact Int.le_of_lt (hA 0 i hi e)
    · rw [← hgr]
      rcases Nat.lt_or_ge i r with e | e
      · exact Int.le_of_lt (hA i r hlt2 e)
      · have : i = r := by omega
        subst this; exact Int.le_refl _
  have h1 := (dot_le L G (fact_dot hL).2 (fun z hz => (fact_ent hL z hz).1) hin).1
  have h2 := (dot_le M G (fact_dot hM).2 (fun z hz => (fact_ent hM z hz).1) hin).2
  rw [(fact_dot hL).1, hLs, hgp] at h1
  rw [(fact_dot hM).1, hMs, hg0] at h2
  rw [hA, hB, hGA, hGB]
  refine low_le hx hy ha60 hb60 ?_ (hpos hn) ha1
  have h3 : ((x * b : Nat) : Int) ≤ ((y * a : Nat) : Int) := by rw [Int.natCast_mul, Int.natCast_mul]; exact Int.le_trans h1 h2
  exact Int.ofNat_le.1 h3
end Go.Proofs.Ythalbmlgkkgheaa
