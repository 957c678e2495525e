/-
  SYMMETRY: no program. Pseudo-Frobenius numbers, the type, mirrors, and what the counts of gaps say of them. (Own work.)
-/
import Derived.Test.YtljfiiohiolbnaaSgF
namespace Go.Proofs.Ytljfiiohiolbnaa
open Go

/-! ### Counts -/
theorem upB_front (p : Nat → Bool) (n : Nat) : (upB p (n + 1)).length = (if p 0 then 1 else 0) + (upB (fun x => p (x + 1)) n).length := by
  induction n with
  | zero => rw [upB_succ, upB_zero, upB_zero]; cases p 0 <;> rfl
  | succ n ih =>
    rw [upB_succ p (n + 1), upB_succ (fun x => p (x + 1)) n]
    cases h : p (n + 1)
    · simpa using ih
    · simp only [if_true, List.length_append, List.length_singleton]; omega
theorem upB_rev : ∀ (n : Nat) (p : Nat → Bool), (upB (fun x => p (n - 1 - x)) n).length = (upB p n).length
  | 0, _ => rfl
  | n + 1, p => by
    rw [upB_front p n, ← upB_rev n fun x => p (x + 1), upB_succ]
    have e : upB (fun x => p (n + 1 - 1 - x)) n = upB (fun x => p (n - 1 - x + 1)) n := by
      unfold upB
      refine List.filter_congr fun x hx => ?_
      have := List.mem_range.1 hx
      rw [show n + 1 - 1 - x = n - 1 - x + 1 by omega]
    rw [e, show n + 1 - 1 - n = 0 by omega]
    cases p 0
    · simp
    · simp only [if_true, List.length_append, List.length_singleton]; omega
theorem upB_two (p q : Nat → Bool) (n : Nat) (h : ∀ x, x < n → p x = true ∨ q x = true) :
    (upB p n).length + (upB q n).length = n + (upB (fun x => p x && q x) n).length := by
  induction n with
  | zero => rfl
  | succ n ih =>
    have hi' := ih fun x hx => h x (by omega)
    have hn := h n (by omega)
    rw [upB_succ, upB_succ, upB_succ]
    cases hp : p n <;> cases hq : q n <;> rw [hp, hq] at hn <;> simp at hn ⊢ <;> omega
theorem upB_none {p : Nat → Bool} {n : Nat} : (upB p n).length = 0 ↔ ∀ x, x < n → p x = false := by
  rw [List.length_eq_zero_iff]
  constructor
  · intro h x hx
    cases hp : p x
    · rfl
    · have := mem_upB.2 ⟨hx, hp⟩; rw [h] at this; cases this
  · intro h
    refine List.eq_nil_iff_forall_not_mem.2 fun x hx => ?_
    have := mem_upB.1 hx
    rw [h x this.1] at this; cases this.2
theorem upB_sole {p : Nat → Bool} {n : Nat} : (upB p n).length ≤ 1 ↔ ∀ x y, x < n → y < n → p x = true → p y = true → x = y := by
  constructor
  · intro h x y hx hy hpx hpy
    have h1 := mem_upB.2 ⟨hx, hpx⟩
    have h2 := mem_upB.2 ⟨hy, hpy⟩
    match hl : upB p n, h with
    | [], _ => rw [hl] at h1; cases h1
    | [a], _ =>
      rw [hl, List.mem_singleton] at h1 h2
      rw [h1, h2]
    | _ :: _ :: _, h => simp at h
  · induction n with
    | zero => intro _; simp [upB_zero]
    | succ n ih =>
      intro h
      rw [upB_succ]
      cases hp : p n
      · exact ih fun x y hx hy => h x y (by omega) (by omega)
      · have : (upB p n).length = 0 := upB_none.2 fun x hx => by
          cases hx' : p x
          · rfl
          · have := h x n (by omega) (by omega) hx' hp; omega
        simp [this]

/-! ### Pseudo-Frobenius numbers -/
noncomputable def psf (G : List Int) (k : Nat) : Bool := !sumB G k && G.all fun g => sumB G (k + g.toNat)
noncomputable def psfL (G : List Int) : List Int := if isSgB G then (upB (psf G) 200).map Int.ofNat else []
noncomputable def typeN (G : List Int) : Int := if isSgB G then (if (psfL G).length ≤ 1 then 1 else ((psfL G).length : Int)) else 0
noncomputable def mirB (G : List Int) (mid : Bool) : Bool :=
  (List.range (condNat G)).all fun x => (mid && decide (2 * x + 1 = condNat G)) || (sumB G x != sumB G (condNat G - 1 - x))
noncomputable def symB (G : List Int) : Bool := isSgB G && mirB G false
noncomputable def psymB (G : List Int) : Bool := isSgB G && decide (0 < frobN G) && decide (frobN G % 2 = 0) && mirB G true
noncomputable def irrB (G : List Int) : Bool := symB G || psymB G
noncomputable def specL (G : List Int) : List Int := if isSgB G then (upB (fun k => psf G k && sumB G (2 * k)) 200).map Int.ofNat else []

theorem psfL_no {G : List Int} (h : isSgB G = false) : psfL G = [] := by unfold psfL; rw [h]; rfl
theorem specL_no {G : List Int} (h : isSgB G = false) : specL G = [] := by unfold specL; rw [h]; rfl
theorem typeN_no {G : List Int} (h : isSgB G = false) : typeN G = 0 := by unfold typeN; rw [h]; rfl
theorem symB_no {G : List Int} (h : isSgB G = false) : symB G = false := by unfold symB; rw [h]; rfl
theorem psymB_no {G : List Int} (h : isSgB G = false) : psymB G = false := by unfold psymB; rw [h]; rfl
theorem psf_gap {G : List Int} {k : Nat} (h : psf G k = true) : sumB G k = false := by
  unfold psf at h; rw [Bool.and_eq_true] at h; simpa using h.1
theorem psf_plus {G : List Int} {k x : Nat} (h : psf G k = true) (hx : IsSum G x) (h0 : 1 ≤ x) : IsSum G (k + x) := by
  obtain ⟨g, hg, hgx, hr⟩ := (isSum_step h0).1 hx
  unfold psf at h
  rw [Bool.and_eq_true, List.all_eq_true] at h
  have h2 := sumB_iff.1 (h.2 _ hg)
  rw [Int.toNat_natCast] at h2
  have := h2.plus hr
  rwa [show k + g + (x - g) = k + x by omega] at this
theorem gap_lt {G : List Int} (hs : isSgB G = true) {k : Nat} (h : sumB G k = false) : k < condNat G := by
  rcases Nat.lt_or_ge k (condNat G) with h1 | h1
  · exact h1
  · rw [sg_from hs k h1] at h; cases h
theorem end_gap {G : List Int} (h : condNat G ≠ 0) : sumB G (condNat G - 1) = false := endOf_not _ _ h
theorem psf_over {G : List Int} (hs : isSgB G = true) : ∀ (d k : Nat), 200 ≤ d + k → sumB G k = false → ∃ p, psf G p = true ∧ k ≤ p ∧ IsSum G (p - k)
  | 0, k, hd, h => by
    have := gap_lt hs h
    have := condNat_le G
    omega
  | d + 1, k, hd, h => by
    cases hp : psf G k
    · unfold psf at hp
      rw [h, Bool.not_false, Bool.true_and, List.all_eq_false] at hp
      obtain ⟨g, hg, hgk⟩ := hp
      have hg1 := sg_pos hs g hg
      obtain ⟨p, hpp, hle, hsum⟩ := psf_over hs d (k + g.toNat) (by omega) (by simpa using hgk)
      refine ⟨p, hpp, by omega, ?_⟩
      have := (IsSum.gen (G := G) (g := g.toNat) (by rw [Int.toNat_of_nonneg (by omega)]; exact hg)).plus hsum
      rwa [show g.toNat + (p - (k + g.toNat)) = p - k by omega] at this
    · exact ⟨k, hp, by omega, by rw [Nat.sub_self]; exact .zero⟩
theorem psf_frob {G : List Int} (hs : isSgB G = true) (hc : condNat G ≠ 0) : psf G (condNat G - 1) = true := by
  have h0 : sumB G (condNat G - 1) = false := end_gap hc
  unfold psf
  rw [h0, Bool.not_false, Bool.true_and, List.all_eq_true]
  intro g hg
  have := sg_pos hs g hg
  exact sg_from hs _ (by omega)
theorem psfL_len {G : List Int} (hs : isSgB G = true) : (psfL G).length = (upB (psf G) 200).length := by
  unfold psfL; rw [if_pos hs, List.length_map]
theorem mem_psfL {G : List Int} (hs : isSgB G = true) (n : Nat) : (n : Int) ∈ psfL G ↔ psf G n = true := by
  unfold psfL
  rw [if_pos hs, List.mem_map]
  constructor
  · rintro ⟨a, ha, e⟩
    obtain rfl : a = n := Int.ofNat_inj.1 e
    exact (mem_upB.1 ha).2
  · intro hn
    have := gap_lt hs (psf_gap hn)
    have := condNat_le G
    exact ⟨n, mem_upB.2 ⟨by omega, hn⟩, rfl⟩

/-! ### Mirrors -/
def bothB (q : Nat → Bool) (c x : Nat) : Bool := q x && q (c - 1 - x)
theorem mir_pair {G : List Int} (_hs : isSgB G = true) {x : Nat} (hx : x < condNat G) : sumB G x = false ∨ sumB G (condNat G - 1 - x) = false := by
  cases h1 : sumB G x
  · exact .inl rfl
  · cases h2 : sumB G (condNat G - 1 - x)
    · exact .inr rfl
    · have := sumB_iff.2 ((sumB_iff.1 h1).plus (sumB_iff.1 h2))
      rw [show x + (condNat G - 1 - x) = condNat G - 1 by omega] at this
      have h0 : sumB G (condNat G - 1) = false := end_gap (by omega)
      rw [h0] at this; cases this
theorem mirB_iff {G : List Int} (hs : isSgB G = true) (mid : Bool) : mirB G mid = true ↔ ∀ x, x < condNat G → bothB (fun n => !sumB G n) (condNat G) x = true → mid = true ∧ 2 * x + 1 = condNat G := by
  unfold mirB bothB
  rw [List.all_eq_true]
  constructor
  · intro h x hx hb
    have := h x (List.mem_range.2 hx)
    rw [Bool.or_eq_true, Bool.and_eq_true, decide_eq_true_eq] at this
    rcases this with h1 | h1
    · exact h1
    · dsimp only at hb
      cases e1 : sumB G x <;> cases e2 : sumB G (condNat G - 1 - x) <;> rw [e1, e2] at hb h1 <;> simp at hb h1
  · intro h x hx
    have hx' := List.mem_range.1 hx
    have hp := mir_pair hs hx'
    have := h x hx'
    dsimp only at this
    cases e1 : sumB G x <;> cases e2 : sumB G (condNat G - 1 - x) <;> rw [e1, e2] at hp this <;> simp at hp this ⊢ <;> exact this
theorem genus_two {G : List Int} (hs : isSgB G = true) : 2 * (gapsL G).length = condNat G + (upB (bothB (fun n => !sumB G n) (condNat G)) (condNat G)).length := by
  have e : (gapsL G).length = (upB (fun n => !sumB G n) (condNat G)).length := by
    unfold gapsL
    rw [if_pos hs, List.length_map, upB_not_from (sg_from hs) (condNat_le G)]
  have h1 := upB_rev (condNat G) fun n => !sumB G n
  have h2 := upB_two (fun n => !sumB G n) (fun x => !sumB G (condNat G - 1 - x)) (condNat G) fun x hx => by simpa using mir_pair hs hx
  rw [show (bothB (fun n => !sumB G n) (condNat G)) = fun x => (!sumB G x && !sumB G (condNat G - 1 - x)) from rfl]
  omega
theorem frob_cond {G : List Int} (hs : isSgB G = true) : frobN G + 1 = (condNat G : Int) := condN_yes hs
theorem genus_len {G : List Int} (hs : isSgB G = true) : genusN G = ((gapsL G).length : Int) := by unfold genusN; rw [if_pos hs]
theorem genus_ge {G : List Int} (hs : isSgB G = true) : frobN G + 1 ≤ 2 * genusN G := by
  rw [frob_cond hs, genus_len hs]
  have := genus_two hs
  omega
theorem sym_genus {G : List Int} (hs : isSgB G = true) : symB G = true ↔ 2 * genusN G = frobN G + 1 := by
  unfold symB
  rw [hs, Bool.true_and, mirB_iff hs, frob_cond hs, genus_len hs]
  have h2 := genus_two hs
  constructor
  · intro h
    have := upB_none.2 fun x hx => by
      cases hb : bothB (fun n => !sumB G n) (condNat G) x
      · exact hb
      · cases (h x hx hb).1
    omega
  · intro h x hx hb
    have := upB_none.1 (by omega : (upB (bothB (fun n => !sumB G n) (condNat G)) (condNat G)).length = 0) x hx
    rw [this] at hb; cases hb
theorem sym_type {G : List Int} (hs : isSgB G = true) : symB G = true ↔ typeN G = 1 := by
  have ht : typeN G = 1 ↔ (upB (psf G) 200).length ≤ 1 := by
    unfold typeN
    rw [if_pos hs, psfL_len hs]
    split <;> omega
  rw [ht, upB_sole]
  unfold symB
  rw [hs, Bool.true_and, mirB_iff hs]
  have hc := condNat_le G
  constructor
  · intro h
    have one : ∀ x, psf G x = true → x = condNat G - 1 := by
      intro x hx
      have hg := psf_gap hx
      have hlt := gap_lt hs hg
      cases e : sumB G (condNat G - 1 - x)
      · have := (h x hlt (by unfold bothB; dsimp only; rw [hg, e]; rfl)).1
        cases this
      · rcases Nat.eq_or_lt_of_le (show x ≤ condNat G - 1 by omega) with he | he
        · exact he
        · have := sumB_iff.2 (psf_plus hx (sumB_iff.1 e) (by omega))
          rw [show x + (condNat G - 1 - x) = condNat G - 1 by omega] at this
          have h0 : sumB G (condNat G - 1) = false := end_gap (by omega)
          rw [h0] at this; cases this
    intro x y _ _ hx hy
    rw [one x hx, one y hy]
  · intro h x hx hb
    unfold bothB at hb
    rw [Bool.and_eq_true] at hb
    have hx0 : sumB G x = false := by simpa using hb.1
    have hx1 : sumB G (condNat G - 1 - x) = false := by simpa using hb.2
    obtain ⟨p, hp, hle, hsum⟩ := psf_over hs 200 x (by omega) hx0
    have hlt := gap_lt hs (psf_gap hp)
    have := h p (condNat G - 1) (by omega) (by omega) hp (psf_frob hs (by omega))
    rw [this] at hsum
    rw [sumB_iff.2 hsum] at hx1; cases hx1
theorem psym_genus {G : List Int} (hs : isSgB G = true) : psymB G = true ↔ 0 < frobN G ∧ 2 * genusN G = frobN G + 2 := by
  unfold psymB
  rw [hs, Bool.true_and, Bool.and_eq_true, Bool.and_eq_true, decide_eq_true_eq, decide_eq_true_eq, mirB_iff hs, genus_len hs]
  have hf := frob_cond hs
  have h2 := genus_two hs
  constructor
  · rintro ⟨⟨hp, hev⟩, h⟩
    refine ⟨hp, ?_⟩
    have le1 := upB_sole.2 fun x y hx hy h1 h2' => by have a := (h x hx h1).2; have b := (h y hy h2').2; omega
    have hm : ¬ (upB (bothB (fun n => !sumB G n) (condNat G)) (condNat G)).length = 0 := by
      intro h0
      have := upB_none.1 h0 ((condNat G - 1) / 2) (by omega)
      have hpair := mir_pair hs (x := (condNat G - 1) / 2) (by omega)
      unfold bothB at this
      rw [show condNat G - 1 - (condNat G - 1) / 2 = (condNat G - 1) / 2 by omega] at this hpair
      rw [or_self] at hpair
      dsimp only at this
      rw [hpair] at this; cases this
    omega
  · rintro ⟨hp, he⟩
    have h1 : (upB (bothB (fun n => !sumB G n) (condNat G)) (condNat G)).length = 1 := by omega
    have sole := upB_sole.1 (Nat.le_of_eq h1)
    have turn : ∀ x, x < condNat G → bothB (fun n => !sumB G n) (condNat G) x = true → 2 * x + 1 = condNat G := by
      intro x hx hb
      have := sole x (condNat G - 1 - x) hx (by omega) hb (by
        unfold bothB at hb ⊢
        rw [show condNat G - 1 - (condNat G - 1 - x) = x by omega, Bool.and_comm]
        exact hb)
      omega
    refine ⟨⟨hp, ?_⟩, fun x hx hb => ⟨rfl, turn x hx hb⟩⟩
    have : ¬ ∀ x, x < condNat G → bothB (fun n => !sumB G n) (condNat G) x = false := fun h => by
      have := upB_none.2 h; omega
    rcases Classical.not_forall.1 this with ⟨x, hx⟩
    rw [Classical.not_imp] at hx
    have := turn x hx.1 (by simpa using hx.2)
    omega
theorem frob_spec {G : List Int} (hs : isSgB G = true) (hf : 1 ≤ frobN G) : frobN G ∈ specL G := by
  have hc := frob_cond hs
  have := condNat_le G
  unfold specL
  rw [if_pos hs, List.mem_map]
  refine ⟨condNat G - 1, mem_upB.2 ⟨by omega, ?_⟩, ?_⟩
  · rw [psf_frob hs (by omega), sg_from hs _ (by omega)]; rfl
  · show ((condNat G - 1 : Nat) : Int) = _
    omega

/-! ### As filters -/
noncomputable def fineB (G : List Int) (x : Int) : Bool := G.all fun g => !hasB (gapsL G) (x + g)
theorem gapsL_no {G : List Int} (h : isSgB G = false) : gapsL G = [] := by unfold gapsL; rw [h]; rfl
theorem upB_and (p q : Nat → Bool) (n : Nat) : upB (fun k => p k && q k) n = (upB p n).filter q := by
  unfold upB
  rw [List.filter_filter]
  exact List.filter_congr fun x _ => Bool.and_comm _ _
theorem filter_cast (l : List Nat) (q : Int → Bool) : (l.map Int.ofNat).filter q = (l.filter fun (n : Nat) => q (n : Int)).map Int.ofNat := by
  rw [List.filter_map]; rfl
theorem psfL_way (G : List Int) : psfL G = (gapsL G).filter (fineB G) := by
  cases hs : isSgB G
  · rw [psfL_no hs, gapsL_no hs]; rfl
  · have e : psfL G = (upB (psf G) 200).map Int.ofNat := by unfold psfL; rw [if_pos hs]
    have e2 : gapsL G = (upB (fun n => !sumB G n) 200).map Int.ofNat := by unfold gapsL; rw [if_pos hs]
    have e3 : upB (psf G) 200 = (upB (fun n => !sumB G n) 200).filter fun k => G.all fun g => sumB G (k + g.toNat) := upB_and (fun n => !sumB G n) (fun k => G.all fun g => sumB G (k + g.toNat)) 200
    rw [e, e3]
    rw [show (gapsL G).filter (fineB G) = ((upB (fun n => !sumB G n) 200).map Int.ofNat).filter (fineB G) by rw [e2], filter_cast]
    congr 1
    refine List.filter_congr fun k _ => ?_
    unfold fineB
    rw [Bool.eq_iff_iff, List.all_eq_true, List.all_eq_true]
    refine forall_congr' fun g => forall_congr' fun hg => ?_
    have hp := sg_pos hs g hg
    have hi' := isIn_gaps hs (k + g.toNat)
    rw [show (k : Int) + g = ((k + g.toNat : Nat) : Int) by omega]
    rw [show hasB (gapsL G) ((k + g.toNat : Nat) : Int) = isIn (gapsL G) (k + g.toNat) from rfl, hi', Bool.not_not]
theorem specL_way (G : List Int) : specL G = (psfL G).filter fun x => hasN G (2 * x) := by
  cases hs : isSgB G
  · rw [psfL_no hs, specL_no hs]; rfl
  · have e : psfL G = (upB (psf G) 200).map Int.ofNat := by unfold psfL; rw [if_pos hs]
    have e2 : specL G = (upB (fun k => psf G k && sumB G (2 * k)) 200).map Int.ofNat := by unfold specL; rw [if_pos hs]
    rw [e2, e, filter_cast, upB_and]
    congr 1
    refine List.filter_congr fun k _ => ?_
    rw [show 2 * (k : Int) = ((2 * k : Nat) : Int) by omega, hasN_in hs]
theorem psfL_len_le (G : List Int) : (psfL G).length ≤ 200 := by
  unfold psfL
  split
  · rw [List.length_map]; exact upB_len_le _ _
  · simp
theorem filter_take {L : List Int} (q : Int → Bool) {k : Nat} (hk : k < L.length) : (L.take (k + 1)).filter q = (L.take k).filter q ++ if q L[k] then [L[k]] else [] := by
  rw [List.take_add_one, List.getElem?_eq_getElem hk, Option.toList_some, List.filter_append]
  congr 1
  cases h : q L[k] <;> simp [h]
theorem all_take {L : List Int} (q : Int → Bool) {k : Nat} (hk : k < L.length) : (L.take (k + 1)).all q = ((L.take k).all q && q L[k]) := by
  rw [List.take_add_one, List.getElem?_eq_getElem hk, Option.toList_some, List.all_append]
  simp
end Go.Proofs.Ytljfiiohiolbnaa
