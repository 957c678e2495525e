/-
  CHAPTER 24 WITHOUT THE PROGRAM: what the law FnArf says: the closure is an Arf semigroup around, and its own closure; an Arf semigroup's elements are the partial sums of its multiplicities. (Own work.)
-/
import Derived.Test.YtipfonpaaebjjaaGreatSgAc
import Derived.Test.YtipfonpaaebjjaaGreatSgId
namespace Go.Proofs.YtipfonpaaebjjaaGreat
open Go Go.RowKit

theorem arfT_some {S : List Int} {p : Int → Bool} {t : Nat × Nat × Nat} (h : arfT S p = some t) : FirstT (badT S p) S.length t.1 t.2.1 t.2.2 := by
  unfold arfT firstT at h
  split at h
  · next hex => cases h; exact hex.choose_spec
  · cases h
theorem arf_out {S : List Int} {p : Int → Bool} (h : arfQ S p = true) : p (arfX S p + arfY S p - arfZ S p) = false := by
  unfold arfQ at h
  cases e : arfT S p with
  | none => rw [e] at h; cases h
  | some t =>
    have hf := arfT_some e
    obtain ⟨h1, h2, h3, -⟩ := arf_hit hf
    rw [h1, h2, h3]
    have := hf.hit
    unfold badT at this
    simpa using this
theorem least_ofA {P : Nat → Prop} (h : ∃ n, P n) : ∃ n, P n ∧ ∀ m, m < n → ¬ P m := by
  obtain ⟨n, hn⟩ := h
  induction n using Nat.strongRecOn with
  | ind n ih =>
    by_cases hh : ∃ m, m < n ∧ P m
    · obtain ⟨m, hm, hp⟩ := hh; exact ih m hm hp
    · exact ⟨n, hn, fun m hm hp => hh ⟨m, hm, hp⟩⟩
theorem first_ex {bad : Nat → Nat → Nat → Bool} {n : Nat} (h : ∃ i j k, k ≤ j ∧ j ≤ i ∧ i < n ∧ bad i j k = true) : ∃ i j k, FirstT bad n i j k := by
  obtain ⟨i, ⟨j0, k0, h1, h2, h3, h4⟩, hi⟩ := least_ofA h
  obtain ⟨j, ⟨k1, g1, g2, g4⟩, hj⟩ := least_ofA (P := fun j => ∃ k, k ≤ j ∧ j ≤ i ∧ bad i j k = true) ⟨j0, k0, h1, h2, h4⟩
  obtain ⟨k, ⟨f1, f4⟩, hk⟩ := least_ofA (P := fun k => k ≤ j ∧ bad i j k = true) ⟨k1, g1, g4⟩
  refine ⟨i, j, k, f1, g2, h3, f4, fun c hc => ?_, fun b c hb hc => ?_, fun a b c ha hb hc => ?_⟩
  · rcases Bool.eq_false_or_eq_true (bad i j c) with e | e
    · exact absurd ⟨by omega, e⟩ (hk c hc)
    · exact e
  · rcases Bool.eq_false_or_eq_true (bad i b c) with e | e
    · exact absurd ⟨c, hc, by omega, e⟩ (hj b hb)
    · exact e
  · rcases Bool.eq_false_or_eq_true (bad a b c) with e | e
    · exact absurd ⟨b, c, hc, hb, by omega, e⟩ (hi a ha)
    · exact e
theorem arfQ_false {S : List Int} {p : Int → Bool} (h : arfQ S p = false) : ∀ i j k, i < S.length → j ≤ i → k ≤ j → p (S.getD i 0 + S.getD j 0 - S.getD k 0) = true := by
  intro i j k hi hj hk
  rcases Bool.eq_false_or_eq_true (p (S.getD i 0 + S.getD j 0 - S.getD k 0)) with e | e
  · exact e
  · exfalso
    have key : ∃ i j k, k ≤ j ∧ j ≤ i ∧ i < S.length ∧ badT S p i j k = true := ⟨i, j, k, hk, hj, hi, by unfold badT; rw [e]; rfl⟩
    have hne : arfT S p ≠ none := by
      intro hn
      obtain ⟨i, j, k, ht⟩ := first_ex key
      rw [show arfT S p = some (i, j, k) from firstT_some ht] at hn
      cases hn
    unfold arfQ at h
    cases e2 : arfT S p with
    | none => exact hne e2
    | some t => rw [e2] at h; cases h
/-- Closed in Arf's sense. -/
def ArfC (G : List Int) : Prop := ∀ x y z : Nat, IsSum G x → IsSum G y → IsSum G z → z ≤ y → y ≤ x → IsSum G (x + y - z)
theorem count_mono {p : Nat → Bool} {a b : Nat} (h : a ≤ b) : (upB p a).length ≤ (upB p b).length := by
  obtain ⟨d, rfl⟩ := Nat.exists_eq_add_of_le h
  clear h
  induction d with
  | zero => exact Nat.le_refl _
  | succ d ih => rw [Nat.add_succ, upB_succ]; split
                 · rw [List.length_append]; omega
                 · exact ih
theorem arfB_closed {G : List Int} (h : arfB G = true) : isSgB G = true ∧ ArfC G := by
  unfold arfB at h
  rw [Bool.and_eq_true, Bool.not_eq_true'] at h
  obtain ⟨hs, hq⟩ := h
  refine ⟨hs, fun x y z hx hy hz hzy hyx => ?_⟩
  by_cases hc : x < condNat G
  · have hS : smallL G = (upB (sumB G) (condNat G)).map Int.ofNat := by unfold smallL; rw [if_pos hs]
    have at_ : ∀ n, IsSum G n → n < condNat G → (upB (sumB G) n).length < (smallL G).length ∧ (smallL G).getD (upB (sumB G) n).length 0 = (n : Int) := fun n hn hlt => by
      have := upB_at (p := sumB G) (sumB_iff.2 hn) hlt
      obtain ⟨hl, e⟩ := List.getElem?_eq_some_iff.1 this
      rw [hS, List.length_map]
      refine ⟨hl, ?_⟩
      rw [List.getD_eq_getElem?_getD, List.getElem?_map, this]; rfl
    have a1 := at_ x hx hc
    have a2 := at_ y hy (by omega)
    have a3 := at_ z hz (by omega)
    have := arfQ_false hq _ _ _ a1.1 (count_mono hyx) (count_mono hzy)
    rw [a1.2, a2.2, a3.2, show (x : Int) + (y : Int) - (z : Int) = ((x + y - z : Nat) : Int) by omega, hasN_in hs] at this
    exact sumB_iff.1 this
  · exact sumB_iff.1 (sg_from hs _ (by omega))
theorem closed_arfB {G : List Int} (hs : isSgB G = true) (h : ArfC G) : arfB G = true := by
  unfold arfB
  rw [hs, Bool.true_and, Bool.not_eq_true']
  refine (arf_none fun i j k hi hj hk => ?_).2.2.2
  have hS : smallL G = (upB (sumB G) (condNat G)).map Int.ofNat := by unfold smallL; rw [if_pos hs]
  have hA : Asc (smallL G) := by rw [hS]; exact upB_asc _ _
  have at_ : ∀ n, n < (smallL G).length → ∃ m : Nat, (smallL G).getD n 0 = (m : Int) ∧ IsSum G m := fun n hn => by
    rw [hS, List.length_map] at hn
    refine ⟨(upB (sumB G) (condNat G))[n], ?_, sumB_iff.1 (mem_upB.1 (List.getElem_mem hn)).2⟩
    rw [hS, List.getD_eq_getElem?_getD, List.getElem?_map, List.getElem?_eq_getElem hn]; rfl
  have mono : ∀ a b, a ≤ b → b < (smallL G).length → (smallL G).getD a 0 ≤ (smallL G).getD b 0 := fun a b hab hb => by
    rcases Nat.lt_or_ge a b with e | e
    · have := hA a b hb e
      rw [List.getD_eq_getElem?_getD, List.getD_eq_getElem?_getD, List.getElem?_eq_getElem (by omega), List.getElem?_eq_getElem hb]
      exact Int.le_of_lt this
    · have : a = b := by omega
      rw [this]; exact Int.le_refl _
  obtain ⟨x, ex, hx⟩ := at_ i hi
  obtain ⟨y, ey, hy⟩ := at_ j (by omega)
  obtain ⟨z, ez, hz⟩ := at_ k (by omega)
  have h1 := mono j i hj hi
  have h2 := mono k j hk (by omega)
  rw [ex, ey] at h1
  rw [ey, ez] at h2
  have h3 := h x y z hx hy hz (by omega) (by omega)
  unfold badT
  rw [ex, ey, ez, show (x : Int) + (y : Int) - (z : Int) = ((x + y - z : Nat) : Int) by omega, hasN_in hs, sumB_iff.2 h3]
  rfl

/-! ### The closure -/
theorem clo_open {G : List Int} (h : cloB G = true) : isSgB G = true ∧ isSgB (cloL G) = true ∧ (∀ n, IsSum (cloL G) n ↔ ArfIn G n) ∧ gapsL (cloL G) = cloG G ∧ fromGpL (cloG G) = cloL G := by
  unfold cloB at h
  rw [Bool.and_eq_true] at h
  obtain ⟨hs, hf⟩ := h
  have e : cloL G = fromGpL (cloG G) := by unfold cloL; rw [if_pos hs]
  obtain ⟨hC, hg⟩ := fromGp_iff.1 ⟨hf, rfl⟩
  rw [← e] at hC hg
  refine ⟨hs, hC, fun n => ?_, hg, e.symm⟩
  have hfar : ∀ n, 200 ≤ n → ArfIn G n := fun n hn => .base (sumB_iff.1 (sg_from hs n (by have := condNat_le G; omega)))
  by_cases hn : n < 200
  · have h1 := mem_gapsL hC n
    rw [hg] at h1
    have h2 : (n : Int) ∈ cloG G ↔ arfP G n = false := by
      unfold cloG
      rw [mem_memK]
      constructor
      · rintro ⟨m, hm, hp, e⟩
        have : n = m := by omega
        rw [this]; exact hp
      · exact fun hp => ⟨n, hn, hp, rfl⟩
    rw [← sumB_iff, ← arfP_iff]
    constructor
    · intro h3
      rcases Bool.eq_false_or_eq_true (arfP G n) with e | e
      · exact e
      · rw [h1.1 (h2.2 e)] at h3; cases h3
    · intro h3
      rcases Bool.eq_false_or_eq_true (sumB (cloL G) n) with e | e
      · exact e
      · rw [h2.1 (h1.2 e)] at h3; cases h3
  · exact ⟨fun _ => hfar n (by omega), fun _ => sumB_iff.1 (sg_from hC n (by have := condNat_le (cloL G); omega))⟩
theorem clo_facts {G : List Int} (h : cloB G = true) : arfB (cloL G) = true ∧ withinB G (cloL G) = true ∧ cloB (cloL G) = true ∧ cloL (cloL G) = cloL G := by
  obtain ⟨hs, hC, hi, hg, he⟩ := clo_open h
  have hcl : ArfC (cloL G) := fun x y z hx hy hz hzy hyx => (hi _).2 (.step ((hi _).1 hx) ((hi _).1 hy) ((hi _).1 hz) hzy hyx)
  have hid : ∀ n, ArfIn (cloL G) n → IsSum (cloL G) n := fun n hn => by
    induction hn with
    | base h => exact h
    | step _ _ _ h1 h2 ihx ihy ihz => exact hcl _ _ _ ihx ihy ihz h1 h2
  have hp : ∀ n, arfP (cloL G) n = arfP G n := fun n => by
    rw [Bool.eq_iff_iff, arfP_iff, arfP_iff, ← hi]
    exact ⟨hid n, fun h => .base h⟩
  have hcg : cloG (cloL G) = cloG G := by unfold cloG; exact memK_cong fun n _ => hp n
  refine ⟨closed_arfB hC hcl, ?_, ?_, ?_⟩
  · unfold withinB
    rw [hs, hC, Bool.true_and, Bool.true_and, List.all_eq_true]
    intro x hx
    obtain ⟨n, rfl⟩ := Int.eq_ofNat_of_zero_le (show 0 ≤ x by have := sg_pos hs x hx; omega)
    have hx : (n : Int) ∈ G := hx
    have := hasN_in hC n
    rw [sumB_iff.2 ((hi n).2 (.base (IsSum.gen hx)))] at this
    exact this
  · unfold cloB
    rw [hC, hcg, Bool.true_and]
    unfold cloB at h
    rw [Bool.and_eq_true] at h
    exact h.2
  · have : cloL (cloL G) = fromGpL (cloG (cloL G)) := by rw [show cloL (cloL G) = if isSgB (cloL G) then fromGpL (cloG (cloL G)) else [] from rfl, if_pos hC]
    rw [this, hcg, he]

/-! ### The multiplicities -/
theorem head_facts {G : List Int} (hs : isSgB G = true) : ∃ m : Nat, G.headD 0 = (m : Int) ∧ 1 ≤ m ∧ (m : Int) ∈ G ∧ ∀ g : Nat, (g : Int) ∈ G → m ≤ g := by
  have hI := isSgB_iff.1 hs
  cases hG : G with
  | nil => exact absurd hG hI.ne
  | cons x t =>
    have hx := hI.bounds x (by rw [hG]; simp)
    obtain ⟨m, rfl⟩ := Int.eq_ofNat_of_zero_le (show 0 ≤ x by omega)
    refine ⟨m, rfl, by omega, by simp, fun g hg => ?_⟩
    rcases List.mem_cons.1 hg with e | e
    · omega
    · obtain ⟨i, hi, h2⟩ := List.getElem_of_mem e
      have := hI.Asc 0 (i + 1) (by rw [hG]; simp; omega) (by omega)
      simp only [hG, List.getElem_cons_zero, List.getElem_cons_succ] at this
      omega
theorem sum_leastA {G : List Int} {m : Nat} (hm : ∀ g : Nat, (g : Int) ∈ G → m ≤ g) : ∀ n, IsSum G n → n = 0 ∨ m ≤ n := by
  intro n h
  induction h with
  | zero => exact .inl rfl
  | add hg h ih => right; have := hm _ hg; omega
theorem blow_iff {G : List Int} (hs : isSgB G = true) (hc : ArfC G) {m : Nat} (hm : G.headD 0 = (m : Int)) (n : Nat) : IsSum (blowG G) n ↔ IsSum G (m + n) := by
  obtain ⟨m', e, h1, hmem, hle⟩ := head_facts hs
  obtain rfl : m' = m := by omega
  constructor
  · intro h
    induction h with
    | zero => exact IsSum.gen hmem
    | @add n g hg h ih =>
      unfold blowG at hg
      rcases List.mem_cons.1 hg with e1 | e1
      · have : g = m' := by omega
        rw [this, ← Nat.add_assoc]; exact ih.plus (IsSum.gen hmem)
      · obtain ⟨x, hx, e2⟩ := List.mem_map.1 e1
        have hxG : x ∈ G := List.mem_of_mem_tail hx
        obtain ⟨y, rfl⟩ := Int.eq_ofNat_of_zero_le (show 0 ≤ x by have := sg_pos hs x hxG; omega)
        have hy := hle y hxG
        have hsum := IsSum.gen hxG
        rw [e] at e2
        have e3 : y = g + m' := by omega
        rcases Nat.le_total (m' + n) y with h3 | h3
        · have := hc y (m' + n) m' hsum ih (IsSum.gen hmem) (by omega) h3
          rw [show y + (m' + n) - m' = m' + (n + g) by omega] at this; exact this
        · have := hc (m' + n) y m' ih hsum (IsSum.gen hmem) hy h3
          rw [show m' + n + y - m' = m' + (n + g) by omega] at this; exact this
  · have key : ∀ s, IsSum G s → ∀ n, s = m' + n → IsSum (blowG G) n := by
      intro s h
      cases h with
      | zero => intro n e; omega
      | @add s g hg h =>
        intro n e4
        have hb := blow_more hs h
        have hge := hle g hg
        by_cases e5 : g = m'
        · have : n = s := by omega
          rw [this]; exact hb
        · have h6 : ((g - m' : Nat) : Int) ∈ blowG G := by
            cases hG : G with
            | nil => rw [hG] at hg; cases hg
            | cons x t =>
              rw [hG] at hg e
              have hx : x = (m' : Int) := e
              rcases List.mem_cons.1 hg with h7 | h7
              · exfalso; omega
              · unfold blowG
                rw [List.tail_cons, List.headD_cons]
                exact List.mem_cons_of_mem _ (List.mem_map.2 ⟨(g : Int), h7, by omega⟩)
          have := hb.plus (IsSum.gen h6)
          rw [show s + (g - m') = n by omega] at this; exact this
    exact fun h => key _ h n rfl
theorem blow_arf {G : List Int} (hs : isSgB G = true) (hc : ArfC G) {m : Nat} (hm : G.headD 0 = (m : Int)) (hb : isSgB (blowL G) = true) : (∀ n, IsSum (blowL G) n ↔ IsSum G (m + n)) ∧ ArfC (blowL G) := by
  have hbl : blowL G = fromL (blowG G) := by unfold blowL; rw [if_pos hs]
  have hf : fromB (blowG G) = true := by
    rcases Bool.eq_false_or_eq_true (fromB (blowG G)) with e | e
    · exact e
    · rw [hbl, fromL_no e, isSgB_nil] at hb; cases hb
  have hok : okG (blowG G) = true := by unfold fromB at hf; rw [Bool.and_eq_true] at hf; exact hf.1
  have hi : ∀ n, IsSum (blowL G) n ↔ IsSum G (m + n) := fun n => by
    rw [← sumB_iff, hbl, fromL_yes hf, sumB_minL (okG_pos hok), sumB_iff]
    exact blow_iff hs hc hm n
  refine ⟨hi, fun x y z hx hy hz h1 h2 => ?_⟩
  rw [hi] at hx hy hz ⊢
  have := hc _ _ _ hx hy hz (by omega) (by omega)
  rw [show m + x + (m + y) - (m + z) = m + (x + y - z) by omega] at this
  exact this
theorem shift_count {p q : Nat → Bool} {m : Nat} (hm : 1 ≤ m) (h0 : p 0 = true) (hg : ∀ n, 1 ≤ n → n < m → p n = false) (hq : ∀ n, p (m + n) = q n) : ∀ t, (upB p (m + t)).length = 1 + (upB q t).length := by
  have hb : ∀ d, d + 1 ≤ m → (upB p (d + 1)).length = 1 := by
    intro d
    induction d with
    | zero => intro _; rw [upB_succ, h0]; rfl
    | succ d ih => intro hd; rw [upB_succ, hg (d + 1) (by omega) (by omega)]; exact ih (by omega)
  intro t
  induction t with
  | zero => obtain ⟨d, rfl⟩ : ∃ d, m = d + 1 := ⟨m - 1, by omega⟩
            rw [Nat.add_zero, hb d (by omega)]; rfl
  | succ t ih =>
    rw [← Nat.add_assoc, upB_succ, upB_succ, hq t]
    cases q t
    · exact ih
    · simp; omega
theorem elem_zeroA {G : List Int} (hs : isSgB G = true) : nthB (sumB G) (condNat G) 0 = 0 :=
  nthB_count (n := 0) (sg_from hs) (sumB_iff.2 .zero)
theorem elem_nextA {G : List Int} (hs : isSgB G = true) (hc : ArfC G) {m : Nat} (hm : G.headD 0 = (m : Int)) (hb : isSgB (blowL G) = true) (k : Nat) :
    nthB (sumB G) (condNat G) (k + 1) = m + nthB (sumB (blowL G)) (condNat (blowL G)) k := by
  obtain ⟨m', e, h1, hmem, hle⟩ := head_facts hs
  obtain rfl : m' = m := by omega
  obtain ⟨hi, -⟩ := blow_arf hs hc hm hb
  have hq : ∀ n, sumB G (m' + n) = sumB (blowL G) n := fun n => by rw [Bool.eq_iff_iff, sumB_iff, sumB_iff]; exact (hi n).symm
  have hg : ∀ n, 1 ≤ n → n < m' → sumB G n = false := fun n h2 h3 => by
    rw [sumB_false]
    intro h4
    have := sum_leastA hle n h4
    omega
  have hcnt := shift_count h1 (sumB_iff.2 .zero) hg hq (nthB (sumB (blowL G)) (condNat (blowL G)) k)
  rw [count_nthB (sg_from hb)] at hcnt
  have := nthB_count (n := m' + nthB (sumB (blowL G)) (condNat (blowL G)) k) (sg_from hs) (by rw [hq]; exact nthB_has (sg_from hb) k)
  rw [hcnt, Nat.add_comm 1 k] at this
  exact this
theorem seqF_sg {f : Nat} {H l : List Int} (h : seqF f H = some l) : isSgB H = true := by
  cases f with
  | zero => cases h
  | succ f =>
    unfold seqF at h
    split at h
    · next hs => exact hs
    · cases h
theorem seq_sums : ∀ (f : Nat) (G l : List Int), seqF f G = some l → ArfC G → l.length ≤ (gapsL G).length + 1 ∧ ∀ i, i < l.length → (nthB (sumB G) (condNat G) (i + 1) : Int) = (l.take (i + 1)).sum := by
  intro f
  induction f with
  | zero => intro G l h; cases h
  | succ f ih =>
    intro G l h hc
    have hs := seqF_sg h
    obtain ⟨m, e, h1, hmem, hle⟩ := head_facts hs
    unfold seqF at h
    rw [if_pos hs] at h
    split at h
    · next h0 =>
      cases h
      refine ⟨by simp, fun i hi => ?_⟩
      obtain rfl : i = 0 := by simpa using hi
      have hm : m = 1 := by omega
      have h2 : sumB G 1 = true := sumB_iff.2 (by rw [← hm]; exact IsSum.gen hmem)
      have h3 : (upB (sumB G) 1).length = 1 := by rw [upB_succ, sumB_iff.2 .zero]; rfl
      have := nthB_count (n := 1) (sg_from hs) h2
      rw [h3] at this
      rw [this]; rfl
    · next h0 =>
      cases hb : seqF f (blowL G) with
      | none => rw [hb] at h; cases h
      | some l2 =>
        rw [hb] at h
        cases h
        have hsb := seqF_sg hb
        obtain ⟨i1, i2⟩ := ih _ _ hb (blow_arf hs hc e hsb).2
        have hless := blow_less hs h0 hsb
        refine ⟨by rw [List.length_cons]; omega, fun i hi => ?_⟩
        have hn := elem_nextA hs hc e hsb i
        rw [hn, e, List.take_succ_cons, List.sum_cons]
        cases i with
        | zero => rw [elem_zeroA hsb]; simp
        | succ j =>
          rw [← i2 j (by rw [List.length_cons] at hi; omega)]
          omega
theorem gaps_199 {G : List Int} (hs : isSgB G = true) : (gapsL G).length ≤ 199 := by
  unfold gapsL
  rw [if_pos hs, List.length_map]
  have := upB_less (p := fun n => !sumB G n) (q := fun _ => true) (fun _ _ => rfl) (x := 0) (by show (!sumB G 0) = false; rw [sumB_iff.2 .zero]; rfl) rfl 200 (by omega)
  have := upB_len_le (fun _ => true) 200
  omega
/-- What the law asks. -/
theorem arf_elem {G : List Int} (h : arfB G = true) {i : Nat} (hi : i < ((seqF 201 G).getD []).length) : elemN G ((i : Int) + 1) = (((seqF 201 G).getD []).take (i + 1)).sum := by
  obtain ⟨hs, hc⟩ := arfB_closed h
  cases hq : seqF 201 G with
  | none => rw [hq] at hi; simp at hi
  | some l =>
    rw [hq] at hi
    simp only [Option.getD_some] at hi ⊢
    obtain ⟨h1, h2⟩ := seq_sums 201 G l hq hc
    have h3 := gaps_199 hs
    unfold elemN
    rw [hs, decide_eq_true (show (0 : Int) ≤ (i : Int) + 1 by omega), decide_eq_true (show (i : Int) + 1 ≤ 200 by omega)]
    rw [show ((i : Int) + 1).toNat = i + 1 by omega]
    exact h2 i hi
theorem seq_bnd {G : List Int} : ∀ x ∈ (seqF 201 G).getD [], 1 ≤ x ∧ x ≤ 60 := by
  have key : ∀ f G l, seqF f G = some l → ∀ x ∈ l, 1 ≤ x ∧ x ≤ 60 := by
    intro f
    induction f with
    | zero => intro G l h; cases h
    | succ f ih =>
      intro G l h x hx
      have hs := seqF_sg h
      unfold seqF at h
      rw [if_pos hs] at h
      split at h
      · cases h; rw [List.mem_singleton] at hx; omega
      · cases hb : seqF f (blowL G) with
        | none => rw [hb] at h; cases h
        | some l2 =>
          rw [hb] at h; cases h
          rcases List.mem_cons.1 hx with e | e
          · obtain ⟨m, e2, -, hmem, -⟩ := head_facts hs
            rw [e, e2]
            exact (isSgB_iff.1 hs).bounds _ hmem
          · exact ih _ _ hb x e
  cases hq : seqF 201 G with
  | none => intro x hx; simp at hx
  | some l => exact key _ _ _ hq

/-! ### What the walk asks -/
theorem small_bndA (G : List Int) (i : Nat) : 0 ≤ (smallL G).getD i 0 ∧ (smallL G).getD i 0 ≤ 200 := by
  by_cases h : i < (smallL G).length
  · have hm : (smallL G).getD i 0 ∈ smallL G := by
      rw [List.getD_eq_getElem?_getD, List.getElem?_eq_getElem h]; exact List.getElem_mem h
    generalize (smallL G).getD i 0 = x at *
    unfold smallL at hm
    split at hm
    · obtain ⟨n, hn, rfl⟩ := List.mem_map.1 hm
      have := (mem_upB.1 hn).1
      have := condNat_le G
      show (0 : Int) ≤ (n : Int) ∧ (n : Int) ≤ 200
      omega
    · cases hm
  · rw [List.getD_eq_getElem?_getD, List.getElem?_eq_none (by omega)]; decide
theorem arf_bndA (G : List Int) (p : Int → Bool) : (0 ≤ arfX (smallL G) p ∧ arfX (smallL G) p ≤ 200) ∧ (0 ≤ arfY (smallL G) p ∧ arfY (smallL G) p ≤ 200) ∧ (0 ≤ arfZ (smallL G) p ∧ arfZ (smallL G) p ≤ 200) := by
  unfold arfX arfY arfZ
  cases arfT (smallL G) p with
  | none => exact ⟨⟨by simp, by simp⟩, ⟨by simp, by simp⟩, ⟨by simp, by simp⟩⟩
  | some t => exact ⟨small_bndA G _, small_bndA G _, small_bndA G _⟩
theorem arf_lawA {G : List Int} (h : arfQ (smallL G) (hasN G) = true) : arfB G = false ∧ hasN G (arfX (smallL G) (hasN G) + arfY (smallL G) (hasN G) - arfZ (smallL G) (hasN G)) = false :=
  ⟨by unfold arfB; rw [h, Bool.not_true, Bool.and_false], arf_out h⟩
theorem take_sumA {L : List Int} (h : ∀ x ∈ L, 1 ≤ x ∧ x ≤ 60) : ∀ k, 0 ≤ (L.take k).sum ∧ (L.take k).sum ≤ 60 * (k : Int) := by
  intro k
  induction L generalizing k with
  | nil => rw [List.take_nil, List.sum_nil]; omega
  | cons x t ih =>
    cases k with
    | zero => simp
    | succ k =>
      have h1 := h x (by simp)
      have h2 := ih (fun y hy => h y (by simp [hy])) k
      rw [List.take_succ_cons, List.sum_cons]
      omega
theorem take_nextA {L : List Int} {k : Nat} (h : k < L.length) : (L.take (k + 1)).sum = (L.take k).sum + L[k] := by
  rw [List.take_add_one, List.getElem?_eq_getElem h, List.sum_append]; simp
end Go.Proofs.YtipfonpaaebjjaaGreat
