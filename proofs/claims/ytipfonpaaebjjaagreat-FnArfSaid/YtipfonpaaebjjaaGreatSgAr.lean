/-
  CHAPTER 24 WITHOUT THE PROGRAM: the first failure of the Arf property, and the sequence of multiplicities. (Own work.)
-/
import Derived.Test.YtipfonpaaebjjaaGreatSgOv
namespace Go.Proofs.YtipfonpaaebjjaaGreat
open Go Go.RowKit

/-! ### The first triple -/
structure FirstT (bad : Nat → Nat → Nat → Bool) (n i j k : Nat) : Prop where
  kj : k ≤ j
  ji : j ≤ i
  lt : i < n
  hit : bad i j k = true
  pk : ∀ c, c < k → bad i j c = false
  pj : ∀ b c, b < j → c ≤ b → bad i b c = false
  pi : ∀ a b c, a < i → b ≤ a → c ≤ b → bad a b c = false
theorem FirstT.unique {bad : Nat → Nat → Nat → Bool} {n i j k a b c : Nat} (h : FirstT bad n i j k) (g : FirstT bad n a b c) : i = a ∧ j = b ∧ k = c := by
  have e1 : i = a := by
    rcases Nat.lt_trichotomy i a with h1 | h1 | h1
    · have := g.pi i j k h1 h.ji h.kj; rw [h.hit] at this; cases this
    · exact h1
    · have := h.pi a b c h1 g.ji g.kj; rw [g.hit] at this; cases this
  subst e1
  have e2 : j = b := by
    rcases Nat.lt_trichotomy j b with h1 | h1 | h1
    · have := g.pj j k h1 h.kj; rw [h.hit] at this; cases this
    · exact h1
    · have := h.pj b c h1 g.kj; rw [g.hit] at this; cases this
  subst e2
  refine ⟨rfl, rfl, ?_⟩
  rcases Nat.lt_trichotomy k c with h1 | h1 | h1
  · have := g.pk k h1; rw [h.hit] at this; cases this
  · exact h1
  · have := h.pk c h1; rw [g.hit] at this; cases this
open Classical in
noncomputable def firstT (bad : Nat → Nat → Nat → Bool) (n : Nat) : Option (Nat × Nat × Nat) :=
  if h : ∃ t : Nat × Nat × Nat, FirstT bad n t.1 t.2.1 t.2.2 then some h.choose else none
theorem firstT_some {bad : Nat → Nat → Nat → Bool} {n i j k : Nat} (h : FirstT bad n i j k) : firstT bad n = some (i, j, k) := by
  unfold firstT
  have hex : ∃ t : Nat × Nat × Nat, FirstT bad n t.1 t.2.1 t.2.2 := ⟨(i, j, k), h⟩
  rw [dif_pos hex]
  obtain ⟨h1, h2, h3⟩ := hex.choose_spec.unique h
  congr 1
  exact Prod.ext h1 (Prod.ext h2 h3)
theorem firstT_none {bad : Nat → Nat → Nat → Bool} {n : Nat} (h : ∀ i j k, i < n → j ≤ i → k ≤ j → bad i j k = false) : firstT bad n = none := by
  unfold firstT
  rw [dif_neg]
  rintro ⟨t, ht⟩
  have := h _ _ _ ht.lt ht.ji ht.kj
  rw [ht.hit] at this; cases this
/-- The numbers at i, j and k have a sum, less the third, that p does not hold of. -/
def badT (S : List Int) (p : Int → Bool) (i j k : Nat) : Bool := !p (S.getD i 0 + S.getD j 0 - S.getD k 0)
noncomputable def arfT (S : List Int) (p : Int → Bool) : Option (Nat × Nat × Nat) := firstT (badT S p) S.length
noncomputable def arfX (S : List Int) (p : Int → Bool) : Int := match arfT S p with | some (i, _, _) => S.getD i 0 | none => 0
noncomputable def arfY (S : List Int) (p : Int → Bool) : Int := match arfT S p with | some (_, j, _) => S.getD j 0 | none => 0
noncomputable def arfZ (S : List Int) (p : Int → Bool) : Int := match arfT S p with | some (_, _, k) => S.getD k 0 | none => 0
noncomputable def arfQ (S : List Int) (p : Int → Bool) : Bool := (arfT S p).isSome
theorem arf_hit {S : List Int} {p : Int → Bool} {i j k : Nat} (h : FirstT (badT S p) S.length i j k) : arfX S p = S.getD i 0 ∧ arfY S p = S.getD j 0 ∧ arfZ S p = S.getD k 0 ∧ arfQ S p = true := by
  unfold arfX arfY arfZ arfQ arfT
  rw [firstT_some h]
  exact ⟨rfl, rfl, rfl, rfl⟩
theorem arf_none {S : List Int} {p : Int → Bool} (h : ∀ i j k, i < S.length → j ≤ i → k ≤ j → badT S p i j k = false) : arfX S p = 0 ∧ arfY S p = 0 ∧ arfZ S p = 0 ∧ arfQ S p = false := by
  unfold arfX arfY arfZ arfQ arfT
  rw [firstT_none h]
  exact ⟨rfl, rfl, rfl, rfl⟩
theorem arf_zero {S : List Int} {p : Int → Bool} (h : arfQ S p = false) : arfX S p = 0 ∧ arfY S p = 0 ∧ arfZ S p = 0 := by
  unfold arfQ at h
  unfold arfX arfY arfZ
  cases e : arfT S p with
  | none => exact ⟨rfl, rfl, rfl⟩
  | some t => rw [e] at h; cases h
noncomputable def arfB (G : List Int) : Bool := isSgB G && !arfQ (smallL G) (hasN G)

/-! ### The sequence of multiplicities -/
theorem blow_sum {G : List Int} {g : Nat} (h : isSgB G = true) (hg : (g : Int) ∈ G) : IsSum (blowG G) g := by
  have hI := isSgB_iff.1 h
  obtain ⟨m, t, e⟩ : ∃ m t, G = m :: t := by
    cases hG : G with
    | nil => exact absurd hG hI.ne
    | cons m t => exact ⟨m, t, rfl⟩
  have hm := hI.bounds m (by rw [e]; simp)
  obtain ⟨M, rfl⟩ := Int.eq_ofNat_of_zero_le (show 0 ≤ m by omega)
  have h0 : (M : Int) ∈ blowG G := by unfold blowG; rw [e]; simp
  have hg' := hg
  rw [e] at hg'
  rcases List.mem_cons.1 hg' with h1 | h1
  · have : g = M := by omega
    rw [this]; exact IsSum.gen h0
  · have hlt : (M : Int) < (g : Int) := by
      obtain ⟨i, hi, h2⟩ := List.getElem_of_mem h1
      have := hI.Asc 0 (i + 1) (by rw [e]; simp; omega) (by omega)
      simp only [e, List.getElem_cons_zero, List.getElem_cons_succ] at this
      rw [h2] at this; exact this
    have h3 : ((g - M : Nat) : Int) ∈ blowG G := by
      unfold blowG
      rw [e, List.tail_cons, List.headD_cons]
      refine List.mem_cons_of_mem _ (List.mem_map.2 ⟨(g : Int), h1, by omega⟩)
    have := (IsSum.gen h3).plus (IsSum.gen h0)
    rw [show g - M + M = g by omega] at this
    exact this
theorem blow_more {G : List Int} (h : isSgB G = true) {n : Nat} (hn : IsSum G n) : IsSum (blowG G) n :=
  sum_of_sums (fun _ hx => blow_sum h hx) hn
theorem upB_le {p q : Nat → Bool} (h : ∀ x, p x = true → q x = true) : ∀ n, (upB p n).length ≤ (upB q n).length
  | 0 => Nat.le_refl _
  | n + 1 => by
    have ih := upB_le h n
    rw [upB_succ, upB_succ]
    cases hp : p n
    · cases q n
      · exact ih
      · simp; omega
    · rw [h n hp]; simp; exact ih
theorem upB_less {p q : Nat → Bool} (h : ∀ x, p x = true → q x = true) {x : Nat} (hp : p x = false) (hq : q x = true) : ∀ n, x < n → (upB p n).length < (upB q n).length
  | 0, hx => by omega
  | n + 1, hx => by
    have hle := upB_le h n
    rw [upB_succ, upB_succ]
    by_cases e : x = n
    · subst e; rw [hp, hq]; simp; omega
    · have ih := upB_less h hp hq n (by omega)
      cases hn : p n
      · cases q n
        · exact ih
        · simp; omega
      · rw [h n hn]; simp; exact ih
theorem sg_two {G : List Int} (h : isSgB G = true) (h1 : G.headD 0 ≠ 1) : ∃ m d : Nat, ∃ t, G = (m : Int) :: ((m + d : Nat) : Int) :: t ∧ 1 ≤ m ∧ 1 ≤ d := by
  have hI := isSgB_iff.1 h
  have hb := hI.bounds
  have hA := hI.Asc
  cases hG : G with
  | nil => exact absurd hG hI.ne
  | cons m r =>
    have hm := hb m (by rw [hG]; simp)
    obtain ⟨M, rfl⟩ := Int.eq_ofNat_of_zero_le (show 0 ≤ m by omega)
    cases hr : r with
    | nil =>
      exfalso
      subst hr
      have hM : M ≠ 1 := fun e => h1 (by rw [hG, e]; rfl)
      have he : IsSum G 201 := endsB_iff.1 hI.ends 201 (by omega)
      have he2 : IsSum G 200 := endsB_iff.1 hI.ends 200 (by omega)
      have hd : dvd_all M G := fun g hg => by
        rw [hG, List.mem_singleton] at hg
        have : g = M := by omega
        rw [this]; exact Nat.dvd_refl M
      have d1 := isSum_dvd hd he
      have d2 := isSum_dvd hd he2
      have d3 : M ∣ 1 := by have := Nat.dvd_sub d1 d2; simpa using this
      exact hM (Nat.dvd_one.1 d3)
    | cons x t =>
      have hx := hb x (by rw [hG, hr]; simp)
      have hlt := hA 0 1 (by rw [hG, hr]; simp) (by omega)
      simp only [hG, hr, List.getElem_cons_zero, List.getElem_cons_succ] at hlt
      refine ⟨M, x.toNat - M, t, ?_, by omega, by omega⟩
      have : x = ((M + (x.toNat - M) : Nat) : Int) := by omega
      rw [← this]
theorem blow_less {G : List Int} (h : isSgB G = true) (h1 : G.headD 0 ≠ 1) (hb : isSgB (blowL G) = true) : (gapsL (blowL G)).length < (gapsL G).length := by
  have hbl : blowL G = fromL (blowG G) := by unfold blowL; rw [if_pos h]
  have hf : fromB (blowG G) = true := by
    rcases Bool.eq_false_or_eq_true (fromB (blowG G)) with e | e
    · exact e
    · rw [hbl, fromL_no e, isSgB_nil] at hb; cases hb
  have hok : okG (blowG G) = true := by unfold fromB at hf; rw [Bool.and_eq_true] at hf; exact hf.1
  have hpos := okG_pos hok
  have hsum : ∀ n, sumB (blowL G) n = sumB (blowG G) n := fun n => by rw [hbl, fromL_yes hf, sumB_minL hpos]
  obtain ⟨m, d, t, e, hm, hd⟩ := sg_two h h1
  have hI := isSgB_iff.1 h
  have hgap : sumB G d = false := by
    rw [sumB_false]
    intro hs
    have hmem : ((m + d : Nat) : Int) ∈ minL G := by rw [hI.min, e]; simp
    have hirr := ((mem_minL_iff (sg_pos h) _).1 hmem).2
    rw [Int.toNat_natCast] at hirr
    exact hirr.2.2 m d hm hd rfl (IsSum.gen (by rw [e]; simp)) hs
  have hel : sumB (blowG G) d = true := by
    refine sumB_iff.2 (IsSum.gen ?_)
    unfold blowG
    rw [e, List.tail_cons, List.headD_cons, List.map_cons]
    refine List.mem_cons_of_mem _ ?_
    rw [show ((m + d : Nat) : Int) - (m : Int) = (d : Int) by omega]
    simp
  unfold gapsL
  rw [if_pos hb, if_pos h, List.length_map, List.length_map]
  refine upB_less (x := d) (fun x hx => ?_) (by rw [hsum, hel]; rfl) (by rw [hgap]; rfl) 200 ?_
  · rw [hsum] at hx
    rcases Bool.eq_false_or_eq_true (sumB G x) with e2 | e2
    · rw [sumB_iff.2 (blow_more h (sumB_iff.1 e2))] at hx; cases hx
    · rw [e2]; rfl
  · have := gap_lt h hgap
    have := condNat_le G
    omega
noncomputable def seqF : Nat → List Int → Option (List Int)
  | 0, _ => none
  | f + 1, G => if isSgB G then (if G.headD 0 = 1 then some [1] else (seqF f (blowL G)).map (G.headD 0 :: ·)) else none
noncomputable def seqB (G : List Int) : Bool := (seqF 201 G).isSome
noncomputable def seqL (G : List Int) : List Int := (seqF 201 G).getD []
/-- The numbers met so far, what is left, and the fuel. -/
structure SeqAt (G out H : List Int) (f : Nat) : Prop where
  eq : seqF 201 G = (seqF f H).map (out ++ ·)
  len : out.length + f = 201
  fuel : isSgB H = true → (gapsL H).length < f
theorem SeqAt.start (G : List Int) : SeqAt G [] G 201 where
  eq := by cases seqF 201 G <;> simp
  len := rfl
  fuel h := by
    unfold gapsL
    rw [if_pos h, List.length_map]
    have := upB_len_le (fun n => !sumB G n) 200
    omega
theorem SeqAt.out {G out H : List Int} {f : Nat} (h : SeqAt G out H f) (hs : isSgB H = false) : seqB G = false ∧ seqL G = [] := by
  have e : seqF f H = none := by
    cases f with
    | zero => rfl
    | succ f => unfold seqF; rw [hs]; rfl
  unfold seqB seqL
  rw [h.eq, e]
  exact ⟨rfl, rfl⟩
theorem SeqAt.outF {G out H : List Int} {f : Nat} (h : SeqAt G out H f) (hs : isSgB H = false) : seqF 201 G = none := by
  have e : seqF f H = none := by
    cases f with
    | zero => rfl
    | succ f => unfold seqF; rw [hs]; rfl
  rw [h.eq, e]; rfl
theorem SeqAt.pos {G out H : List Int} {f : Nat} (h : SeqAt G out H f) (hs : isSgB H = true) : ∃ g, f = g + 1 := ⟨f - 1, by have := h.fuel hs; omega⟩
theorem SeqAt.done {G out H : List Int} {f : Nat} (h : SeqAt G out H f) (hs : isSgB H = true) (h1 : H.headD 0 = 1) : seqB G = true ∧ seqL G = out ++ [1] := by
  obtain ⟨g, rfl⟩ := h.pos hs
  have e : seqF (g + 1) H = some [1] := by unfold seqF; rw [if_pos hs, if_pos h1]
  unfold seqB seqL
  rw [h.eq, e]
  exact ⟨rfl, rfl⟩
theorem SeqAt.doneF {G out H : List Int} {f : Nat} (h : SeqAt G out H f) (hs : isSgB H = true) (h1 : H.headD 0 = 1) : seqF 201 G = some (out ++ [1]) := by
  obtain ⟨g, rfl⟩ := h.pos hs
  have e : seqF (g + 1) H = some [1] := by unfold seqF; rw [if_pos hs, if_pos h1]
  rw [h.eq, e]; rfl
theorem blowB_sg (G : List Int) : blowB G = isSgB (blowL G) := by
  unfold blowB blowL
  cases hs : isSgB G
  · rw [Bool.false_and, if_neg (by simp), isSgB_nil]
  · rw [Bool.true_and, if_pos rfl]
    cases hf : fromB (blowG G)
    · rw [fromL_no hf, isSgB_nil]
    · rw [fromL_isSg hf]
theorem SeqAt.next {G out H : List Int} {g : Nat} (h : SeqAt G out H (g + 1)) (hs : isSgB H = true) (h1 : H.headD 0 ≠ 1) : SeqAt G (out ++ [H.headD 0]) (blowL H) g where
  eq := by
    have e : seqF (g + 1) H = (seqF g (blowL H)).map (H.headD 0 :: ·) := by
      show (if isSgB H then (if H.headD 0 = 1 then some [1] else (seqF g (blowL H)).map (H.headD 0 :: ·)) else none) = _
      rw [if_pos hs, if_neg h1]
    rw [h.eq, e, Option.map_map]
    congr 1
    funext x
    simp
  len := by have := h.len; rw [List.length_append, List.length_singleton]; omega
  fuel hb := by have := blow_less hs h1 hb; have := h.fuel hs; omega
theorem seqL_len (G : List Int) : (seqL G).length ≤ 201 := by
  have key : ∀ f H l, seqF f H = some l → l.length ≤ f := by
    intro f
    induction f with
    | zero => intro H l h; cases h
    | succ f ih =>
      intro H l h
      unfold seqF at h
      split at h
      · split at h
        · cases h; simp
        · cases hb : seqF f (blowL H) with
          | none => rw [hb] at h; cases h
          | some k =>
            rw [hb] at h
            cases h
            have := ih _ _ hb
            simp; omega
      · cases h
  unfold seqL
  cases h : seqF 201 G with
  | none => simp
  | some l => exact key _ _ _ h
theorem blowG_take {G : List Int} (k : Nat) (h1 : 1 ≤ k) (hk : k < G.length) : (blowG G).take (k + 1) = (blowG G).take k ++ [G[k] - G.headD 0] := by
  have hl : (blowG G).length = G.length := by
    unfold blowG
    rw [List.length_cons, List.length_map, List.length_tail]; omega
  have hg : (blowG G)[k]? = some (G[k] - G.headD 0) := by
    obtain ⟨j, rfl⟩ : ∃ j, k = j + 1 := ⟨k - 1, by omega⟩
    unfold blowG
    rw [List.getElem?_cons_succ, List.getElem?_map, List.getElem?_tail, List.getElem?_eq_getElem hk]
    rfl
  rw [List.take_add_one, hg]
  rfl
theorem blowG_one (G : List Int) : (blowG G).take 1 = [G.headD 0] := by unfold blowG; rfl
theorem blowG_len {G : List Int} (h : G ≠ []) : (blowG G).length = G.length := by
  have := List.length_pos_iff.2 h
  unfold blowG
  rw [List.length_cons, List.length_map, List.length_tail]; omega
theorem blowG_full {G : List Int} (h : G ≠ []) : (blowG G).take G.length = blowG G := by rw [← blowG_len h, List.take_length]
theorem headD_get {G : List Int} (h : 0 < G.length) : G.headD 0 = G[0] := by cases G with | nil => simp at h | cons x t => rfl
def lenV : Value → Nat
  | .slice _ n _ => n
  | _ => 0
theorem slv_grown {w w' : World} {row : Option Nat} {a : Option Addr} {xs : List Value} (h : SlV w a xs) (hg : w.grownBy w' row) (hne : xs = [] ∨ ∀ b o, a = some ⟨b, o, none⟩ → ∀ j, row = some j → j ≠ b) : SlV w' a xs := by
  rcases h with h | ⟨b, off, ha, hlt, hc⟩
  · exact .inl h
  · rcases hne with e | hne
    · exact .inl e
    · exact .inr ⟨b, off, ha, Nat.lt_of_lt_of_le hlt hg.size, fun i u hu => hg.cell (hc i u hu) (fun e => hne b off ha _ e.symm rfl)⟩
end Go.Proofs.YtipfonpaaebjjaaGreat
